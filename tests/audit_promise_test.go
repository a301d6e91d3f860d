package tests

import (
	"fmt"
	"math"
	"math/rand/v2"
	"slices"
	"strings"
	"testing"

	"loop.example/g00167/impl"
)

// The seventh promise in its own words, on the program's answers: a note is told behind the others; a changed letter is told where it is.

// appended makes a log by the program's own means, and asks behind each note that it stands behind the others.
func appended(t *testing.T, notes ...string) []impl.Record {
	t.Helper()
	var l []impl.Record
	for i, note := range notes {
		longer, ok := impl.AppendNote(l, note)
		if !ok || len(longer) != i+1 || !slices.Equal(longer[:i], l) || longer[i].Number != i+1 || longer[i].Note != note {
			t.Fatalf("AppendNote(%s, %q) = %s, %v", short(l), note, short(longer), ok)
		}
		if place, broken := impl.FirstBroken(longer); broken || place != 0 || !impl.GoodLog(longer) {
			t.Fatalf("%s is broken at %v, %v", short(longer), place, broken)
		}
		l = longer
	}
	return l
}

func TestANoteIsToldBehindTheOthers(t *testing.T) {
	rnd := rand.New(rand.NewPCG(7, 1))
	for round := range 200 {
		notes := randomNotes(rnd, round%61)
		if round%5 == 0 {
			notes = slices.Repeat(randomNotes(rnd, 1), round%61)
		}
		l := appended(t, notes...)
		if !slices.Equal(l, logOf(notes...)) {
			t.Fatalf("%s of %q", short(l), notes)
		}
		s, ok := impl.LogText(l)
		if !ok || s != modelLines(l) || strings.Count(s, "\n") != len(l) {
			t.Fatalf("LogText(%s) = %.300q, %v", short(l), s, ok)
		}
		if back, ok := impl.ReadLog(s); !ok || !slices.Equal(back, l) {
			t.Fatalf("ReadLog(%.300q) = %s, %v", s, short(back), ok)
		}
		// What was read goes on as what was written.
		back, _ := impl.ReadLog(s)
		a, ok := impl.AppendNote(l, "behind")
		b, is := impl.AppendNote(back, "behind")
		if ok != is || ok != (len(l) < 60) || !slices.Equal(a, b) {
			t.Fatalf("%s, %v; %s, %v", short(a), ok, short(b), is)
		}
	}
}

// Any part of a log from its front is a log, and its text the front of the text.
func TestALogGrowsAtItsEndAlone(t *testing.T) {
	l := appended(t, numbered(60)...)
	whole, _ := impl.LogText(l)
	for n := range 61 {
		s, ok := impl.LogText(l[:n])
		if !ok || !strings.HasPrefix(whole, s) {
			t.Errorf("%q, %v", s, ok)
		}
		if back, ok := impl.ReadLog(s); !ok || !slices.Equal(back, l[:n]) {
			t.Error(n, short(back), ok)
		}
	}
}

// toldAt asks that a log is broken first at a place, and that no function takes it for a good one.
func toldAt(t *testing.T, l []impl.Record, want int) {
	t.Helper()
	if place, broken := impl.FirstBroken(l); place != want || !broken {
		t.Fatalf("FirstBroken(%s) = %v, %v; asked: %v", short(l), place, broken, want)
	}
	if longer, ok := impl.AppendNote(l, "x"); ok || len(longer) != 0 || impl.GoodLog(l) {
		t.Fatalf("AppendNote(%s) = %s, %v", short(l), short(longer), ok)
	}
	if s, ok := impl.LogText(l); ok || s != "" {
		t.Fatalf("LogText(%s) = %q, %v", short(l), s, ok)
	}
	if back, ok := impl.ReadLog(modelLines(l)); ok || len(back) != 0 {
		t.Fatalf("ReadLog(%.300q) = %s, %v", modelLines(l), short(back), ok)
	}
}

// Each letter of each note, changed to each other plain one, one at a time.
func TestAChangedLetterIsToldWhereItIs(t *testing.T) {
	rnd := rand.New(rand.NewPCG(7, 2))
	for _, notes := range [][]string{{"a"}, {"a", "b", "c"}, {"0 0 p/a /x", "4 0 p/b /", "7 2 prod/web /a/b", ""}, {"aa", "aa", "aa"}, {everyPlain()[:80], everyPlain()[15:]}, randomNotes(rnd, 12)} {
		l := appended(t, notes...)
		for place, r := range l {
			for k := range len(r.Note) {
				for _, letter := range []byte(everyPlain()) {
					if letter != r.Note[k] {
						changed := slices.Clone(l)
						changed[place].Note = r.Note[:k] + string([]byte{letter}) + r.Note[k+1:]
						toldAt(t, changed, place)
					}
				}
			}
		}
	}
}

// The same in a log of 60, one letter after the other, each to one other.
func TestAChangedLetterOfAFullLog(t *testing.T) {
	rnd := rand.New(rand.NewPCG(7, 3))
	l := appended(t, randomNotes(rnd, 60)...)
	for place, r := range l {
		for k := range len(r.Note) {
			changed := slices.Clone(l)
			note := []byte(r.Note)
			note[k] = 32 + (note[k]-32+byte(1+rnd.IntN(94)))%95
			changed[place].Note = string(note)
			toldAt(t, changed, place)
		}
	}
}

// A letter less, one more, two turned about: the note is another one, and is told where it is.
func TestAnotherNoteIsToldWhereItIs(t *testing.T) {
	rnd := rand.New(rand.NewPCG(7, 4))
	for range 100 {
		l := appended(t, randomNotes(rnd, 1+rnd.IntN(20))...)
		place := rnd.IntN(len(l))
		note := l[place].Note
		k := rnd.IntN(len(note) + 1)
		for _, other := range []string{note[:k], note[k:], note[:k] + "#" + note[k:], note[k:] + note[:k], strings.ToUpper(note), randomNote(rnd)} {
			if other != note && len(other) <= 80 {
				changed := slices.Clone(l)
				changed[place].Note = other
				toldAt(t, changed, place)
			}
		}
	}
}

// Who changes a note and its own sum is told at the next record, since that is linked to it; at the end of a log nobody is.
func TestEachRecordIsLinkedToAllAhead(t *testing.T) {
	for n := 1; n <= 60; n++ {
		for _, place := range []int{0, n / 2, n - 1} {
			l := appended(t, numbered(n)...)
			notes := numbered(n)
			notes[place] = "forged"
			made := logOf(notes...)
			for upTo := place; upTo < n; upTo++ {
				l[upTo] = made[upTo]
				if upTo+1 < n {
					toldAt(t, l, upTo+1)
				}
			}
			if !impl.GoodLog(l) {
				t.Error(short(l))
			}
		}
	}
}

func TestANumberOrASumIsToldWhereItIs(t *testing.T) {
	rnd := rand.New(rand.NewPCG(7, 5))
	for _, n := range []int{1, 2, 3, 10, 60} {
		l := appended(t, randomNotes(rnd, n)...)
		for place := range n {
			for bit := range 64 {
				changed := slices.Clone(l)
				changed[place].Number ^= 1 << bit
				toldAt(t, changed, place)
				if bit < 32 {
					changed = slices.Clone(l)
					changed[place].Sum ^= 1 << bit
					toldAt(t, changed, place)
				}
			}
		}
	}
}

// numberedAnew gives each record the Number of its place; the sums stay.
func numberedAnew(l []impl.Record) []impl.Record {
	anew := slices.Clone(l)
	for i := range anew {
		anew[i].Number = i + 1
	}
	return anew
}

func TestRecordsLeftOut(t *testing.T) {
	for _, notes := range [][]string{numbered(1), numbered(2), numbered(12), numbered(60), slices.Repeat([]string{"a"}, 12), make([]string, 12)} {
		l := appended(t, notes...)
		for place := range l {
			less := slices.Delete(slices.Clone(l), place, place+1)
			if place == len(l)-1 {
				checkLog(t, less, true)
				continue
			}
			toldAt(t, less, place)
			toldAt(t, numberedAnew(less), place)
		}
	}
}

func TestRecordsTwice(t *testing.T) {
	for _, notes := range [][]string{numbered(1), numbered(2), numbered(12), numbered(59), slices.Repeat([]string{"a"}, 12), make([]string, 12)} {
		l := appended(t, notes...)
		for place := range l {
			twice := slices.Insert(slices.Clone(l), place, l[place])
			toldAt(t, twice, place+1)
			toldAt(t, numberedAnew(twice), place+1)
			again := append(slices.Clone(l), l[place])
			toldAt(t, again, len(l))
			toldAt(t, numberedAnew(again), len(l))
		}
	}
}

func TestRecordsInAnotherOrder(t *testing.T) {
	for _, notes := range [][]string{numbered(2), numbered(12), numbered(60), slices.Repeat([]string{"a"}, 12), make([]string, 12)} {
		l := appended(t, notes...)
		for a := range l {
			for b := a + 1; b < len(l); b++ {
				turned := slices.Clone(l)
				turned[a], turned[b] = turned[b], turned[a]
				toldAt(t, turned, a)
				toldAt(t, numberedAnew(turned), a)
				// The notes alone turned about, or the sums alone.
				if notes[a] != notes[b] {
					turned = slices.Clone(l)
					turned[a].Note, turned[b].Note = turned[b].Note, turned[a].Note
					toldAt(t, turned, a)
				}
				turned = slices.Clone(l)
				turned[a].Sum, turned[b].Sum = turned[b].Sum, turned[a].Sum
				toldAt(t, turned, a)
			}
		}
		slices.Reverse(l)
		toldAt(t, l, 0)
	}
}

// Lines of a text left out, twice, or in another order.
func TestLinesOfALogInAnotherOrder(t *testing.T) {
	s, _ := impl.LogText(appended(t, numbered(12)...))
	lines := strings.SplitAfter(s, "\n")[:12]
	for a := range lines {
		if a < 11 {
			refused(t, strings.Join(slices.Delete(slices.Clone(lines), a, a+1), ""))
		}
		for b := range lines {
			refused(t, strings.Join(slices.Insert(slices.Clone(lines), a, lines[b]), ""))
			if a != b {
				turned := slices.Clone(lines)
				turned[a], turned[b] = turned[b], turned[a]
				refused(t, strings.Join(turned, ""))
			}
		}
	}
}

// Sums go on: that of two texts one behind the other is that of the second behind the first.
func TestSumsGoOn(t *testing.T) {
	rnd := rand.New(rand.NewPCG(7, 6))
	for range 2000 {
		s := make([]byte, rnd.IntN(40))
		for i := range s {
			s[i] = byte(rnd.IntN(256))
		}
		k, before := rnd.IntN(len(s)+1), rnd.Uint32()
		whole := impl.SumText(before, string(s))
		if whole != impl.SumText(impl.SumText(before, string(s[:k])), string(s[k:])) || whole != modelSum(before, string(s)) {
			t.Fatalf("SumText(%v, %q) = %v", before, s, whole)
		}
	}
}

// The tenth promise for this chapter: any arguments, none changed, none shared.

type logCall struct {
	l      []impl.Record
	note   string
	text   string
	before uint32
}

// recordBehindAll stands behind each list that is handed over: who reads it there tells another answer.
var recordBehindAll = impl.Record{Number: -77, Note: "\x00", Sum: 77}

// recordsAlone tells whether no two lists share memory, up to the end of each, and leaves its mark on all of it.
func recordsAlone(lists ...[]impl.Record) bool {
	for i, l := range lists {
		for k := range l[:cap(l)] {
			if l[:cap(l)][k] == recordBehindAll {
				return false
			}
			l[:cap(l)][k] = impl.Record{Number: -i, Note: "mark"}
		}
	}
	for i, l := range lists {
		if slices.ContainsFunc(l[:cap(l)], func(r impl.Record) bool { return r.Number != -i }) {
			return false
		}
	}
	return true
}

// checkLogCall asks every function of the chapter, holds each answer against the model's, and writes over all of it behind.
func checkLogCall(t *testing.T, c logCall) {
	t.Helper()
	g := &guard{}
	l := guarded(g, c.l, recordBehindAll)

	if got, want := impl.SumText(c.before, c.text), modelSum(c.before, c.text); got != want {
		t.Errorf("SumText(%v, %.60q) = %v", c.before, c.text, got)
	}
	if got, want := impl.GoodLog(l), modelGoodLog(c.l); got != want {
		t.Errorf("GoodLog(%s) = %v", short(c.l), got)
	}
	place, broken := impl.FirstBroken(l)
	if want, is := modelFirstBroken(c.l); place != want || broken != is {
		t.Errorf("FirstBroken(%s) = %v, %v", short(c.l), place, broken)
	}
	longer, ok := impl.AppendNote(l, c.note)
	if want, is := modelAppend(c.l, c.note); ok != is || !slices.Equal(longer, want) {
		t.Errorf("AppendNote(%s, %.60q) = %s, %v", short(c.l), c.note, short(longer), ok)
	}
	again, _ := impl.AppendNote(l, c.note)
	text, ok := impl.LogText(l)
	if want, is := modelLogText(c.l); ok != is || text != want {
		t.Errorf("LogText(%s) = %.300q, %v", short(c.l), text, ok)
	}
	read, ok := impl.ReadLog(c.text)
	if want, is := modelReadLog(c.text); ok != is || !slices.Equal(read, want) {
		t.Errorf("ReadLog(%.300q) = %s, %v", c.text, short(read), ok)
	}
	readAgain, _ := impl.ReadLog(c.text)
	if !recordsAlone(longer, again, read, readAgain) {
		t.Errorf("shared: %s", short(c))
	}
	if !g.unchanged() {
		t.Errorf("changed: %s", short(c))
	}
}

// oddRecord makes one part of a record odd.
func oddRecord(rnd *rand.Rand, r impl.Record) impl.Record {
	switch rnd.IntN(3) {
	case 0:
		r.Number = oddNumbers[rnd.IntN(len(oddNumbers))]
	case 1:
		r.Note = oddNote(rnd, r.Note)
	case 2:
		r.Sum = someSums[rnd.IntN(len(someSums))]
	}
	return r
}

func oddNote(rnd *rand.Rand, note string) string {
	k := rnd.IntN(len(note) + 1)
	switch rnd.IntN(4) {
	case 0:
		return note[:k] + string([]byte{byte(rnd.IntN(256))}) + note[k:]
	case 1:
		return note + strings.Repeat("x", 81-min(81, len(note)))
	case 2:
		return nearTexts[rnd.IntN(len(nearTexts))]
	}
	return note[:k]
}

func TestAnyLog(t *testing.T) {
	rnd := rand.New(rand.NewPCG(7, 1000))
	for round := range 4000 {
		l := logOf(randomNotes(rnd, rnd.IntN(12))...)
		if round%40 == 0 {
			l = logOf(randomNotes(rnd, 58+rnd.IntN(5))...)
		}
		c := logCall{l: l, note: randomNote(rnd), text: modelLines(l), before: rnd.Uint32()}
		switch round % 6 {
		case 0:
			c.note, c.text = oddNote(rnd, c.note), oddNote(rnd, c.text)
		case 1:
			c.l = oddList(rnd, l, impl.Record{})
		case 2:
			c.l = oddList(rnd, l, impl.Record{Number: len(l) + 1, Note: c.note, Sum: modelSum(sumAhead(l, len(l)), fmt.Sprintf("%d %s", len(l)+1, c.note))})
			c.text = modelLines(c.l)
		case 3:
			if len(l) > 0 {
				c.l = slices.Clone(l)
				i := rnd.IntN(len(l))
				c.l[i] = oddRecord(rnd, c.l[i])
			}
		case 4:
			c.l = make([]impl.Record, rnd.IntN(70))
			for i := range c.l {
				c.l[i] = oddRecord(rnd, impl.Record{Number: i + 1})
			}
			c.text = nearTexts[rnd.IntN(len(nearTexts))]
		}
		checkLogCall(t, c)
	}
	checkLogCall(t, logCall{})
}

func TestLogFarTooLong(t *testing.T) {
	long := strings.Repeat("x", 1<<20)
	many := make([]impl.Record, 100000)
	for i := range many {
		many[i] = impl.Record{Number: i + 1}
	}
	checkLogCall(t, logCall{l: many, note: long, text: long})
	checkLogCall(t, logCall{l: []impl.Record{{Number: 1, Note: long}}, note: long, text: long + "\n"})
	checkLogCall(t, logCall{l: logOf(numbered(60)...), note: long, text: "1 385a9a0f " + long + "\n"})
	checkLogCall(t, logCall{l: logOf(long), text: modelLines(logOf(long)), before: math.MaxUint32})
	checkLogCall(t, logCall{l: logOf(numbered(2000)...), text: modelLines(logOf(numbered(2000)...))})
	checkLogCall(t, logCall{l: many, text: strings.Repeat("1 385a9a0f a\n", 50000)})
}

// Two answers made of one log share nothing: what is put behind one is not behind the other.
func TestLogAnswersAreNew(t *testing.T) {
	for _, n := range []int{0, 1, 2, 5, 58, 59} {
		l := slices.Grow(logOf(numbered(n)...), 9)
		a, _ := impl.AppendNote(l, "a")
		b, _ := impl.AppendNote(l, "b")
		if len(a) != n+1 || len(b) != n+1 || a[n].Note != "a" || b[n].Note != "b" || l[:n+1][n] != (impl.Record{}) {
			t.Error(n, short(a), short(b))
		}
		clear(a[:cap(a)])
		if !slices.Equal(l, logOf(numbered(n)...)) || !slices.Equal(b, logOf(append(numbered(n), "b")...)) {
			t.Error(n, short(l), short(b))
		}
	}
}

// What gives up inside is caught inside, time and again, and nothing of it is left behind for the next call.
func TestBrokenLogsOneAfterTheOther(t *testing.T) {
	good, bad := logOf(numbered(9)...), logOf(numbered(9)...)
	bad[4].Sum++
	for range 1000 {
		if place, broken := impl.FirstBroken(bad); place != 4 || !broken {
			t.Fatal(place, broken)
		}
		if place, broken := impl.FirstBroken(good); place != 0 || broken || !impl.GoodLog(good) || impl.GoodLog(bad) {
			t.Fatal(place, broken)
		}
	}
}

// A caller that is about to give up itself may ask, too: the answers are the same, and its own panic stays its own.
func TestLogAskedByAPanickingCaller(t *testing.T) {
	good, bad := logOf(numbered(3)...), logOf(numbered(3)...)
	bad[1].Number = 7
	caught := func() (caught any) {
		defer func() { caught = recover() }()
		defer func() {
			if place, broken := impl.FirstBroken(bad); place != 1 || !broken || impl.GoodLog(bad) {
				t.Error(place, broken)
			}
			if place, broken := impl.FirstBroken(good); place != 0 || broken || !impl.GoodLog(good) {
				t.Error(place, broken)
			}
		}()
		panic("the caller's own")
	}()
	if caught != "the caller's own" {
		t.Error(caught)
	}
}

// FuzzLog reads what it is fed, and makes a log of it, too: each line is a note.
func FuzzLog(f *testing.F) {
	f.Add(keptText, "a", uint32(0))
	f.Add("", "", uint32(2166136261))
	f.Add("a\nb\n\nc", strings.Repeat("x", 81), uint32(math.MaxUint32))
	f.Fuzz(func(t *testing.T, text string, note string, before uint32) {
		read, _ := impl.ReadLog(text)
		checkLogCall(t, logCall{l: read, note: note, text: text, before: before})
		l := logOf(strings.Split(text, "\n")...)
		checkLogCall(t, logCall{l: l, note: note, text: modelLines(l), before: before})
		if len(l) > 0 {
			l[int(before)%len(l)].Sum = before
			checkLogCall(t, logCall{l: l, note: note, text: modelLines(l) + note, before: before})
		}
	})
}
