package tests

import (
	"fmt"
	"math"
	"slices"
	"strings"
	"testing"

	"loop.example/g00167/impl"
)

func TestAuditConstants(t *testing.T) {
	if impl.MaxRecords != 60 || impl.MaxNote != 80 {
		t.Error(impl.MaxRecords, impl.MaxNote)
	}
}

// Each sum is written out here, worked out apart from any program of Go.
func TestSumTextEdges(t *testing.T) {
	for _, c := range []struct {
		before uint32
		s      string
		want   uint32
	}{
		{0, "", 0},
		{2166136261, "", 2166136261},
		{4294967295, "", 4294967295},
		{1, "", 1},
		{0, "\x00", 0},
		{0, "\x00\x00\x00", 0},
		{1, "\x00", 16777619},
		{0, "\x01", 16777619},
		{1, "\x01", 0},
		{255, "\xff", 0},
		{0, "\xff", 4278292845}, // the greatest product of a byte that does not go beyond
		{1, "\xff", 4261515226},
		{256, "\x00", 103168}, // 4295070464, less 2^32
		{4294967295, "\x00", 4278189677},
		{4294967295, "\xff", 4294864128},
		{2166136261, "a", 3826002220},
		{2166136261, "foobar", 3214735720},
		{2166136261, "1 a", 945461775},
		{5, "ab", 2063023370},
	} {
		if got := impl.SumText(c.before, c.s); got != c.want {
			t.Errorf("SumText(%v, %q) = %v", c.before, c.s, got)
		}
		if got := modelSum(c.before, c.s); got != c.want {
			t.Errorf("the model of SumText(%v, %q) tells %v", c.before, c.s, got)
		}
	}
}

var someSums = []uint32{0, 1, 2, 127, 128, 255, 256, 16777619, 1<<31 - 1, 1 << 31, 2166136261, math.MaxUint32 - 1, math.MaxUint32}

func TestSumTextEachByte(t *testing.T) {
	for _, before := range someSums {
		for b := range 256 {
			for _, s := range []string{string([]byte{byte(b)}), string([]byte{byte(b), 0, 255}), string([]byte{255, byte(b)})} {
				if got, want := impl.SumText(before, s), modelSum(before, s); got != want {
					t.Errorf("SumText(%v, %q) = %v, asked: %v", before, s, got, want)
				}
			}
		}
	}
	// A text is its bytes, plain or not, and has no greatest length here.
	for _, s := range append([]string{"ä", "日本", "\xff\xfe", "\n", strings.Repeat("ab\x00", 100000)}, nearTexts...) {
		for _, before := range someSums {
			if got, want := impl.SumText(before, s), modelSum(before, s); got != want {
				t.Errorf("SumText(%v, %.60q) = %v, asked: %v", before, s, got, want)
			}
		}
	}
}

// checkLog asks all functions of one list of records; good is what the document says of it.
func checkLog(t *testing.T, l []impl.Record, good bool) {
	t.Helper()
	if got := modelGoodLog(l); got != good {
		t.Errorf("the model tells %v of %s", got, short(l))
	}
	if got := impl.GoodLog(l); got != good {
		t.Errorf("GoodLog(%s) = %v", short(l), got)
	}
	place, broken := impl.FirstBroken(l)
	if want, is := modelFirstBroken(l); place != want || broken != is || good && broken {
		t.Errorf("FirstBroken(%s) = %v, %v; asked: %v, %v", short(l), place, broken, want, is)
	}
	text, ok := impl.LogText(l)
	if want, _ := modelLogText(l); text != want || ok != good {
		t.Errorf("LogText(%s) = %.300q, %v", short(l), text, ok)
	}
	for _, note := range []string{"", "x", "x y ", strings.Repeat("z", 80), strings.Repeat("z", 81), "\n"} {
		longer, ok := impl.AppendNote(l, note)
		if want, is := modelAppend(l, note); ok != is || !slices.Equal(longer, want) || ok && !good {
			t.Errorf("AppendNote(%s, %q) = %s, %v", short(l), note, short(longer), ok)
		}
	}
	checkLogText(t, modelLines(l))
}

// checkLogText reads a text, and writes what was read.
func checkLogText(t *testing.T, s string) bool {
	t.Helper()
	want, good := modelReadLog(s)
	got, ok := impl.ReadLog(s)
	if ok != good || !slices.Equal(got, want) {
		t.Errorf("ReadLog(%.300q) = %s, %v; asked: %s, %v", s, short(got), ok, short(want), good)
	}
	if back, is := impl.LogText(got); ok && (!is || back != s) {
		t.Errorf("%.300q came back as %.300q, %v", s, back, is)
	}
	return ok
}

// refused asks that a text is none of a log.
func refused(t *testing.T, s string) {
	t.Helper()
	if l, ok := impl.ReadLog(s); ok || len(l) != 0 {
		t.Errorf("ReadLog(%.60q) = %s, %v", s, short(l), ok)
	}
	checkLogText(t, s)
}

// Five notes and what they come to, written out from the document's words, the sums worked out apart.
var kept = []impl.Record{
	{Number: 1, Note: "a", Sum: 945461775},
	{Number: 2, Note: "b", Sum: 2541785093},
	{Number: 3, Note: "", Sum: 2900432006},
	{Number: 4, Note: "a 1", Sum: 2905876126},
	{Number: 5, Note: "ok 0 p/a /x", Sum: 2690710296},
}

const keptText = "1 385a9a0f a\n2 97809005 b\n3 ace11486 \n4 ad34269e a 1\n5 a060fb18 ok 0 p/a /x\n"

func TestLogOrdinary(t *testing.T) {
	var l []impl.Record
	for i, r := range kept {
		longer, ok := impl.AppendNote(l, r.Note)
		if !ok || !slices.Equal(longer, kept[:i+1]) {
			t.Fatal(longer, ok)
		}
		l = longer
		if place, broken := impl.FirstBroken(l); place != 0 || broken || !impl.GoodLog(l) {
			t.Error(place, broken, l)
		}
		checkLog(t, l, true)
	}
	if s, ok := impl.LogText(l); s != keptText || !ok {
		t.Errorf("%q, %v", s, ok)
	}
	if back, ok := impl.ReadLog(keptText); !slices.Equal(back, kept) || !ok {
		t.Error(back, ok)
	}
}

func TestLogOfNone(t *testing.T) {
	for _, l := range [][]impl.Record{nil, {}, slices.Clone(kept)[:0]} {
		checkLog(t, l, true)
		if s, ok := impl.LogText(l); s != "" || !ok {
			t.Errorf("%q, %v", s, ok)
		}
		if one, ok := impl.AppendNote(l, ""); !ok || !slices.Equal(one, []impl.Record{{Number: 1, Sum: modelSum(2166136261, "1 ")}}) {
			t.Error(one, ok)
		}
	}
	if l, ok := impl.ReadLog(""); !ok || len(l) != 0 {
		t.Error(l, ok)
	}
}

func TestMaxRecordsMet(t *testing.T) {
	full := strings.Repeat("~", 80)
	for _, notes := range [][]string{numbered(64), make([]string, 64), slices.Repeat([]string{full}, 64)} {
		for n := range 65 {
			l := logOf(notes[:n]...)
			checkLog(t, l, n <= 60)
			longer, ok := impl.AppendNote(l, full)
			if ok != (n < 60) || ok && (len(longer) != n+1 || longer[n].Number != n+1 || longer[n].Note != full) || !ok && len(longer) != 0 {
				t.Errorf("behind %v: %s, %v", n, short(longer), ok)
			}
			if place, broken := impl.FirstBroken(l); place != 0 || broken {
				t.Error(n, place, broken)
			}
			if back, ok := impl.ReadLog(modelLines(l)); ok != (n <= 60) || ok && !slices.Equal(back, l) || !ok && len(back) != 0 {
				t.Errorf("%v lines: %s, %v", n, short(back), ok)
			}
			// What has too many records is no log, so nothing is told of what is broken in it.
			if n > 0 {
				l[n/2].Sum++
				place, broken := impl.FirstBroken(l)
				if n <= 60 && (place != n/2 || !broken) || n > 60 && (place != 0 || broken) {
					t.Error(n, place, broken)
				}
			}
		}
	}
}

// checkNote asks for a note at each place of a log; where it is none the records are no log, and nothing is told of what is broken in them.
func checkNote(t *testing.T, note string, good bool) {
	t.Helper()
	if longer, ok := impl.AppendNote(nil, note); ok != good || ok && longer[0].Note != note {
		t.Errorf("AppendNote(nil, %.100q) = %s, %v", note, short(longer), ok)
	}
	if longer, ok := impl.AppendNote(kept, note); ok != good || ok && longer[5].Note != note || !ok && len(longer) != 0 {
		t.Errorf("AppendNote(kept, %.100q) = %s, %v", note, short(longer), ok)
	}
	for place := range 3 {
		notes := numbered(3)
		notes[place] = note
		checkLog(t, logOf(notes...), good)
		for at := range 3 {
			l := logOf(notes...)
			l[at].Number = 77
			checkLog(t, l, false)
			if got, broken := impl.FirstBroken(l); broken != good || good && got != at || !good && got != 0 {
				t.Errorf("FirstBroken(%s) = %v, %v", short(l), got, broken)
			}
		}
	}
}

func TestMaxNoteMet(t *testing.T) {
	for _, n := range []int{0, 1, 2, 78, 79, 80, 81, 82, 160, 256, 336, 100000} {
		checkNote(t, strings.Repeat("x", n), n <= 80)
		checkNote(t, strings.Repeat(" ", n), n <= 80)
	}
	checkNote(t, everyPlain()[:80], true)
	checkNote(t, everyPlain()[15:], true)
	checkNote(t, everyPlain()[14:], false)
	// Letters of more than one byte are not plain, and are counted by bytes.
	checkNote(t, strings.Repeat("ä", 40), false)
	checkNote(t, "ä", false)
}

func TestNoteBytes(t *testing.T) {
	for b := range 256 {
		one := string([]byte{byte(b)})
		for _, note := range []string{one, one + "x", "x" + one, "x" + one + "y", strings.Repeat("x", 79) + one, one + strings.Repeat(" ", 79)} {
			checkNote(t, note, b >= 32 && b <= 126)
		}
	}
}

// brokenAt asks that a log is broken, and where first.
func brokenAt(t *testing.T, l []impl.Record, want int) {
	t.Helper()
	if place, broken := impl.FirstBroken(l); place != want || !broken {
		t.Errorf("FirstBroken(%s) = %v, %v; asked: %v", short(l), place, broken, want)
	}
	checkLog(t, l, false)
}

func TestFirstBrokenAtEachPlace(t *testing.T) {
	for _, n := range []int{1, 2, 3, 9, 10, 11, 59, 60} {
		for place := range n {
			for _, number := range []int{math.MinInt, -1, 0, 1, place, place + 2, -place - 1, place + 1 + 1<<32, math.MaxInt} {
				if number != place+1 {
					l := logOf(numbered(n)...)
					l[place].Number = number
					brokenAt(t, l, place)
				}
			}
			sum := logOf(numbered(n)...)[place].Sum
			for _, other := range []uint32{0, 1, 2166136261, math.MaxUint32, sum + 1, sum - 1, ^sum, sum ^ 1<<31, sum ^ 1<<16} {
				l := logOf(numbered(n)...)
				l[place].Sum = other
				brokenAt(t, l, place)
			}
			l := logOf(numbered(n)...)
			l[place].Note += " "
			brokenAt(t, l, place)
		}
	}
}

func TestFirstBrokenOfSeveral(t *testing.T) {
	for _, n := range []int{2, 3, 5, 60} {
		for a := range n {
			for b := a + 1; b < n; b++ {
				for kind := range 9 {
					l := logOf(numbered(n)...)
					for i, place := range []int{a, b} {
						switch []int{kind % 3, kind / 3}[i] {
						case 0:
							l[place].Number = 1 + (place+1)%n
						case 1:
							l[place].Sum += 5
						case 2:
							l[place].Note = "other"
						}
					}
					if place, broken := impl.FirstBroken(l); place != a || !broken || impl.GoodLog(l) {
						t.Errorf("%v and %v of %v: %v, %v", a, b, n, place, broken)
					}
				}
			}
		}
		all := make([]impl.Record, n)
		brokenAt(t, all, 0)
	}
}

// What the number, the blank, the note and the sum ahead each count for.
func TestSumsThatAreNotRight(t *testing.T) {
	for place := range 3 {
		right := logOf("a", "a", "a")
		number, ahead := fmt.Sprint(place+1), sumAhead(right, place)
		others := []uint32{
			impl.SumText(ahead, "a"), impl.SumText(ahead, number), impl.SumText(ahead, number+"a"), impl.SumText(ahead, number+" "), impl.SumText(ahead, "a "+number),
			impl.SumText(ahead, number+" a\n"), impl.SumText(ahead, "0"+number+" a"), impl.SumText(ahead, fmt.Sprint(place)+" a"), impl.SumText(ahead, fmt.Sprint(place+2)+" a"),
			impl.SumText(0, number+" a"), impl.SumText(16777619, number+" a"), ahead,
		}
		if place > 0 {
			others = append(others, impl.SumText(2166136261, number+" a"), impl.SumText(right[2-place].Sum, number+" a"))
		}
		for _, sum := range others {
			l := slices.Clone(right)
			l[place].Sum = sum
			brokenAt(t, l, place)
		}
		// A sum that is right for a Number does not make the Number right.
		l := slices.Clone(right)
		l[place] = impl.Record{Number: 7, Note: "a", Sum: impl.SumText(ahead, "7 a")}
		brokenAt(t, l, place)
		if s := modelLines(l); s == "" || checkLogText(t, s) {
			t.Errorf("%q is read", s)
		}
	}
}

// Notes whose sums have noughts ahead, as one record and as the first of two.
func TestSumsWithNoughtsAhead(t *testing.T) {
	for note, digits := range map[string]string{
		"240": "0a6d51e6", "564": "00857091", "13661": "000d46e3", "309527": "0000d0b6", "1969033": "00000e6b", "5797982": "000000a9", "137022791": "00000002", "54892929^": "00000000",
	} {
		l, ok := impl.AppendNote(nil, note)
		s, is := impl.LogText(l)
		if !ok || !is || s != "1 "+digits+" "+note+"\n" {
			t.Errorf("%q, %v, %v", s, ok, is)
		}
		checkLog(t, l, true)
		checkLog(t, logOf(note, "x"), true)
		bare := strings.TrimLeft(digits, "0")
		for _, other := range []string{bare, "0" + digits, digits[1:], strings.Repeat(" ", 8-len(bare)) + bare, "0x" + digits[2:], "+" + digits[1:], "-" + digits[1:], strings.Replace(digits, "0", "O", 1)} {
			refused(t, "1 "+other+" "+note+"\n")
		}
	}
}

func TestNumbersOfTwoDigits(t *testing.T) {
	l := logOf(numbered(60)...)
	s, ok := impl.LogText(l)
	lines := strings.Split(s, "\n")
	if !ok || len(lines) != 61 || lines[60] != "" {
		t.Fatal(lines, ok)
	}
	for place, start := range map[int]string{0: "1 ", 8: "9 ", 9: "10 ", 10: "11 ", 58: "59 ", 59: "60 "} {
		if want := fmt.Sprintf("%s%08x note %d of it", start, l[place].Sum, place); lines[place] != want {
			t.Errorf("%q, asked: %q", lines[place], want)
		}
		for _, other := range []string{"0" + start, "+" + start, "-" + start, " " + start, "0x" + start, start + " ", "", " ", start[1:], "1" + start, fmt.Sprint(place, " "), fmt.Sprint(place+2, " ")} {
			wrong := slices.Clone(lines)
			wrong[place] = other + strings.TrimPrefix(lines[place], start)
			refused(t, strings.Join(wrong, "\n"))
		}
	}
}

func TestReadLogWrong(t *testing.T) {
	one, two := "1 385a9a0f a\n", "2 97809005 b\n"
	for _, s := range []string{one, one + two, keptText} {
		if !checkLogText(t, s) {
			t.Errorf("%q is not read", s)
		}
	}
	for _, s := range []string{
		"\n", "\n\n", " ", " \n", "  \n", "   \n", "x", "x\n", "1\n", "1 \n", "1 385a9a0f\n", "1 385a9a0f \n", "1 a\n", "a\n", "385a9a0f a\n", "\x00",
		// without the last byte 10, with an empty line
		"1 385a9a0f a", "1 385a9a0f a\n2 97809005 b", "1 385a9a0f a\r\n", "1 385a9a0f a\r", "1 385a9a0f a\n\n", "\n" + one, one + "\n" + two, one + two + "\n", one + " \n" + two, one + " ", one + "\x00",
		// a blank more or less, or another byte for it
		" 1 385a9a0f a\n", "1  385a9a0f a\n", "1 385a9a0f  a\n", "1 385a9a0f a \n", "1385a9a0f a\n", "1 385a9a0fa\n", "1385a9a0fa\n", "1\t385a9a0f a\n", "1 385a9a0f\ta\n", "1\n385a9a0f a\n", "1 385a9a0f\na\n",
		// great hex digits, seven or nine of them, or no hex digits
		"1 385A9a0f a\n", "1 385a9A0f a\n", "1 385a9a0F a\n", "1 385A9A0F a\n", "1 385a9a0 a\n", "1 85a9a0f a\n", "1 0385a9a0f a\n", "1 385a9a0f0 a\n", "1 1385a9a0f a\n", "1 945461775 a\n", "1 0x385a9a0f a\n", "1 385a_9a0f a\n", "1 385g9a0f a\n", "1  a\n", "1 + a\n",
		// a needless nought or a sign, or a Number that is not its place
		"01 385a9a0f a\n", "001 385a9a0f a\n", "+1 385a9a0f a\n", "-1 385a9a0f a\n", "1. 385a9a0f a\n", "0x1 385a9a0f a\n", "1_ 385a9a0f a\n", "0 385a9a0f a\n", "2 385a9a0f a\n", " 385a9a0f a\n", "18446744073709551617 385a9a0f a\n", "4294967297 385a9a0f a\n", "١ 385a9a0f a\n",
		two, two + one, one + one, one + "3 97809005 b\n", one + "02 97809005 b\n", one + two + two, one + "1 97809005 b\n",
		// a Sum that is not right
		"1 385a9a0e a\n", "1 00000000 a\n", "1 811c9dc5 a\n", "1 ffffffff a\n", "1 385a9a0f b\n", "1 385a9a0f \n", one + "2 97809004 b\n", one + "2 385a9a0f b\n", one + "2 97809005 c\n",
		strings.Repeat(one, 61), strings.Repeat("\n", 100000), strings.Repeat(" ", 100000), strings.Repeat("1", 100000), strings.Repeat(one, 100000), one + strings.Repeat("x", 100000),
		"1 385a9a0f a" + strings.Repeat(" ", 100000) + "\n", strings.Repeat("0", 100000) + one, strings.TrimSuffix(keptText, "\n"), keptText + "6", keptText + "6 \n", keptText + keptText,
	} {
		refused(t, s)
	}
}

// A record whose sum is right for a note that is none, or of more than 60, is refused all the same.
func TestReadLogOfRightSums(t *testing.T) {
	for _, note := range []string{strings.Repeat("x", 81), "\x1f", "\x7f", "\x00", "\t", "\r", "\xff", "ä", "a\nb", "a\n", "\n"} {
		refused(t, modelLines(logOf(note)))
		refused(t, modelLines(logOf("a", note)))
		refused(t, modelLines(logOf(note, "a")))
	}
	for _, n := range []int{61, 62, 99, 100, 120} {
		refused(t, modelLines(logOf(numbered(n)...)))
	}
	for first := 2; first < 4; first++ {
		refused(t, modelLines(logOf(numbered(5)...)[first-1:]))
	}
	for _, note := range []string{" ", "  ", " a", "a ", " a  b ", "1 385a9a0f a", "~", strings.Repeat(" ", 80), strings.Repeat("~", 80)} {
		if s := modelLines(logOf(note, "b", note)); !checkLogText(t, s) {
			t.Errorf("%q is not read", s)
		}
	}
}

func TestReadLogEachByteChanged(t *testing.T) {
	for _, s := range []string{keptText, modelLines(logOf("", "", "")), modelLines(logOf(numbered(11)...)), modelLines(logOf("240", "54892929^", " "))} {
		for i := range len(s) {
			checkLogText(t, s[:i])
			checkLogText(t, s[i:])
			refused(t, s[:i]+s[i+1:])
			for b := range 256 {
				one := string([]byte{byte(b)})
				if one != s[i:i+1] {
					refused(t, s[:i]+one+s[i+1:])
				}
				refused(t, s[:i]+one+s[i:])
			}
		}
	}
}
