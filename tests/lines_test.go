package tests

import (
	"fmt"
	"slices"
	"strings"
	"testing"

	"loop.example/g00167/impl"
)

func TestLinesConstants(t *testing.T) {
	if impl.MaxScript != 3000 || impl.MaxLines != 120 {
		t.Error(impl.MaxScript, impl.MaxLines)
	}
}

// toldLine is a line and its answer.
type toldLine struct {
	line, answer string
}

// Scripts with the answer of each line, written out here from the document's words alone.

var ordinaryScript = []toldLine{
	{"policy deny p/c * /**+allow p/a * /**+allow p/b get /x", "ok"},
	{"enrol p/b", "ok"},
	{"enrol p/a", "ok"},
	{"enrol p/c", "ok"},
	{"force p/b", "force 0"},
	{"log p/b", "log 0"},
	{"delivered", "delivered"},
	{"ask p/a p/b get /x 50", "ok"},
	{"decide p/b", "no 4"},
	{"log p/b", "log 1 4 0 p/a /x"},
	{"push p/b", "ok"},
	{"push p/a", "ok"},
	{"force p/b", "force 1"},
	{"tick 5", "ok"},
	{"ask p/a p/b get /x 50", "ok"},
	{"decide p/b", "ok"},
	{"delivered", "delivered p/b"},
	{"tick 1", "ok"},
	{"hop p/b 0 p/a get /x", "ok"},
	{"decide p/a", "ok"},
	{"delivered", "delivered p/b p/a"},
	{"hop p/b 0 p/a put /x", "ok"},
	{"decide p/a", "no 7"},
	{"log p/a", "log 2 7 3 p/a /x"},
	{"ask p/c p/a get /y 10", "ok"},
	{"decide p/a", "no 7"},
	{"log p/a", "log 3 7 2 p/c /y"},
	{"decide p/a", "no 2"},
	{"mail p/b 0", "ok"},
	{"force p/b", "force 1"},
	{"revoke p/a", "ok"},
	{"mail p/b 0", "ok"},
	{"force p/b", "force 1 coming 2"},
	{"forge p/b get /x p/a p/b 2 5 55;", "ok"},
	{"decide p/b", "no 5"},
	{"log p/b", "log 3 5 0 p/a /x"},
	{"forge p/b get /x p/a p/b 2 5 55;", "ok"},
	{"push p/b", "ok"},
	{"force p/b", "force 2"},
	{"decide p/b", "no 6"},
	{"log p/b", "log 4 6 4 p/a /x"},
	{"ask p/a p/b get /x 50", "no 3"},
	{"forge p/a put / p/z p/b 9 0 50;", "ok"},
	{"crash p/a", "ok"},
	{"decide p/a", "no 2"},
	{"force p/a", "force 1"},
	{"mail p/c 0", "ok"},
	{"force p/c", "force 0 coming 2"},
	{"mail p/c 4", "ok"},
	{"mail p/c 6", "no 1"},
	{"force p/d", "no"},
	{"log p/d", "no"},
	{"log p/c", "log 0"},
	{"delivered", "delivered p/b p/a"},
	{"fly", "what"},
}

var refusedScript = []toldLine{
	{"push p/a", "no 2"},
	{"mail p/a 0", "no 2"},
	{"decide p/a", "no 2"},
	{"crash p/a", "no 2"},
	{"revoke p/a", "no 3"},
	{"revoke pa", "no 1"},
	{"enrol p/a", "ok"},
	{"enrol p/a", "no 2"},
	{"enrol P/A", "no 1"},
	{"push p/a", "no 2"},
	{"mail p/a 0", "no 2"},
	{"decide p/a", "no 2"},
	{"ask p/a p/b get /x 5", "no 2"},
	{"ask p/a p/a post /x 5", "no 1"},
	{"ask p/a p/a get x 5", "no 1"},
	{"ask p/a p/a get /x 100001", "no 1"},
	{"ask p/b p/a get /x 5", "no 3"},
	{"hop p/a 0 p/a get /x", "no 2"},
	{"forge p/b get /x p/a p/a 1 0 5;", "no 2"},
	{"forge p/a get /x p/a p/a 1 0 5", "no 1"},
	{"policy allow", "no 1"},
	{"policy allow p/a * /**+", "no 1"},
	{"policy +allow p/a * /**", "no 1"},
	{"policy allow p/a * /**++deny p/b * /**", "no 1"},
	{"policy allow p/a * /** + deny p/b * /**", "no 1"},
	{"tick 0", "no 1"},
	{"tick 100000", "ok"},
	{"tick 1", "no 1"},
	{"force p/a", "force 0"},
	{"policy none", "ok"},
	{"push p/a", "ok"},
	{"force p/a", "force 1"},
	{"mail p/a 2", "no 1"},
	{"ask p/a p/a get /x 0", "ok"},
	{"decide p/a", "no 7"},
	{"log p/a", "log 1 7 3 p/a /x"},
	{"log p/b", "no"},
	{"force p/b", "no"},
	{"delivered", "delivered"},
}

// hopsScript grows a token to MaxLinks links, each with its delivery.
var hopsScript = []toldLine{
	{"policy allow */* * /**", "ok"},
	{"enrol p/a", "ok"}, {"push p/a", "ok"},
	{"enrol p/b", "ok"}, {"push p/b", "ok"},
	{"ask p/a p/b get / 100000", "ok"}, {"decide p/b", "ok"},
	{"hop p/b 0 p/a get /1", "ok"}, {"decide p/a", "ok"},
	{"hop p/a 1 p/b put /2", "ok"}, {"decide p/b", "ok"},
	{"hop p/b 2 p/b get /3/3", "ok"}, {"decide p/b", "ok"},
	{"hop p/a 3 p/a get /", "no 2"},
	{"hop p/b 3 p/a get /4", "ok"}, {"decide p/a", "ok"},
	{"hop p/a 4 p/b get /5", "ok"}, {"decide p/b", "ok"},
	{"hop p/b 5 p/a get /6", "no 4"},
	{"hop p/b 6 p/a get /6", "no 2"},
	{"tick 101", "ok"},
	{"hop p/a 1 p/b get /7", "no 4"},
	{"hop p/b 0 p/a get /7", "ok"}, {"decide p/a", "ok"},
	{"log p/a", "log 3 0 0 p/a /7"},
	{"log p/b", "log 4 0 0 p/a /5"},
	{"delivered", "delivered p/b p/a p/b p/b p/a p/b p/a"},
}

var fullScript = []toldLine{
	{"policy allow */* get /**+deny p/0 * /no", "ok"},
	{"enrol p/0", "ok"}, {"enrol p/1", "ok"}, {"enrol p/2", "ok"}, {"enrol p/3", "ok"}, {"enrol p/4", "ok"},
	{"enrol p/5", "ok"}, {"enrol p/6", "ok"}, {"enrol p/7", "ok"}, {"enrol p/8", "ok"}, {"enrol p/9", "ok"},
	{"enrol q/0", "no 3"},
	{"force q/0", "no"},
	{"push p/1", "ok"},
	{"ask p/0 p/1 get /a 9", "ok"}, {"ask p/0 p/1 get /b 9", "ok"}, {"ask p/0 p/1 get /no 9", "ok"}, {"ask p/0 p/1 put /d 9", "ok"},
	{"forge p/1 get /e p/0 p/1 1 0 9;", "ok"}, {"forge p/1 get /f p/0 p/1 9 0 9;", "ok"}, {"forge p/1 get /g p/0 p/1 1 0 9;p/1 p/2 2 0 9;", "ok"}, {"forge p/1 get /h p/0 p/2 1 0 9;", "ok"},
	{"ask p/0 p/1 get /i 9", "no 3"},
	{"forge p/1 get /i p/0 p/1 1 0 9;", "no 3"},
	{"decide p/1", "ok"}, {"log p/1", "log 1 0 0 p/0 /a"},
	{"decide p/1", "ok"}, {"log p/1", "log 2 0 0 p/0 /b"},
	{"decide p/1", "no 7"}, {"log p/1", "log 3 7 2 p/0 /no"},
	{"decide p/1", "no 7"}, {"log p/1", "log 4 7 3 p/0 /d"},
	{"decide p/1", "ok"}, {"log p/1", "log 5 0 0 p/0 /e"},
	{"decide p/1", "no 6"}, {"log p/1", "log 6 6 2 p/0 /f"},
	{"tick 10", "ok"},
	{"forge p/1 get /a p/0 p/1 1 0 9;", "ok"},
	{"decide p/1", "no 6"}, {"log p/1", "log 7 6 2 p/0 /g"},
	{"decide p/1", "no 6"}, {"log p/1", "log 8 6 2 p/0 /h"},
	{"decide p/1", "no 6"}, {"log p/1", "log 9 6 3 p/0 /a"},
	{"decide p/1", "no 2"},
	{"delivered", "delivered p/1 p/1 p/1"},
}

var writtenScripts = [][]toldLine{ordinaryScript, refusedScript, hopsScript, fullScript}

func linesOf(script []toldLine) []string {
	var lines []string
	for _, l := range script {
		lines = append(lines, l.line)
	}
	return lines
}

func TestScriptsOrdinary(t *testing.T) {
	for _, script := range writtenScripts {
		told := answersOf(t, linesOf(script)...)
		for i, l := range script {
			if told[i] != l.answer {
				t.Errorf("line %d, %q: %q; asked: %q", i+1, l.line, told[i], l.answer)
			}
		}
	}
}

// Each kind of line with the act that it is; those that only ask are none.
var lineKinds = []struct {
	line string
	act  impl.Act
}{
	{"enrol p/a", at(impl.ActEnrol, "p/a")},
	{"revoke p/a", at(impl.ActRevoke, "p/a")},
	{"policy deny p/c * /**+allow p/a get /x", actPolicy("deny p/c * /**\nallow p/a get /x\n")},
	{"tick 5", actTick(5)},
	{"mail p/a 7", actMail("p/a", 7)},
	{"push p/a", at(impl.ActPush, "p/a")},
	{"ask p/a p/b put /x/y 12", actAsk("p/a", "p/b", "put", "/x/y", 12)},
	{"hop p/a 3 p/b get /z", actHop("p/a", 3, "p/b", "get", "/z")},
	{"forge p/b get /z p/a p/b 1 0 9;p/b p/b 2 0 9;", actForge("p/b", "get", "/z", "p/a p/b 1 0 9;p/b p/b 2 0 9;")},
	{"decide p/a", at(impl.ActDecide, "p/a")},
	{"crash p/a", at(impl.ActCrash, "p/a")},
	{"force p/a", impl.Act{}},
	{"log p/a", impl.Act{}},
	{"delivered", impl.Act{}},
}

func TestActsOfLines(t *testing.T) {
	var lines []string
	var want []impl.Act
	for _, c := range lineKinds {
		lines = append(lines, c.line, "fly", "")
		if c.act.Kind == 0 {
			if acts, ok := impl.ActsOfText(c.line + "\n"); !ok || len(acts) != 0 {
				t.Errorf("ActsOfText(%q) = %s, %v", c.line, short(acts), ok)
			}
			continue
		}
		countsAs(t, c.line, c.act)
		want = append(want, c.act)
	}
	if _, acts := checkScript(t, scriptOf(lines...)); !slices.Equal(acts, want) || len(acts) != 11 {
		t.Error(acts)
	}
	// An act counts whatever its code: neither a name that is none nor a place that is none matters to the line.
	countsAs(t, "enrol A", at(impl.ActEnrol, "A"))
	countsAs(t, "ask * ** METHOD PATH 999999", actAsk("*", "**", "METHOD", "PATH", 999999))
	countsAs(t, "hop none 0 + ; ,", actHop("none", 0, "+", ";", ","))
	countsAs(t, "crash none", at(impl.ActCrash, "none"))
}

func TestScriptEdges(t *testing.T) {
	for text, want := range map[string]string{
		"":                   "",
		"\n":                 "what\n",
		"\n\n\n":             "what\nwhat\nwhat\n",
		"tick 1\n":           "ok\n",
		"tick 1":             "",
		"tick 1\n ":          "",
		"tick 1\ntick 1":     "",
		"tick 1\ntick 1\n":   "ok\nok\n",
		"tick 1\r\n":         "what\n",
		"tick 1\n\ntick 1\n": "ok\nwhat\nok\n",
		"\ntick 1\n":         "what\nok\n",
		"delivered":          "",
		"delivered\n":        "delivered\n",
		" ":                  "",
		" \n":                "what\n",
		"x":                  "",
	} {
		if told, _ := checkScript(t, text); told != want {
			t.Errorf("RunMesh(%q) = %q", text, told)
		}
		if _, ok := impl.ActsOfText(text); ok != (text == "" || strings.HasSuffix(text, "\n")) {
			t.Errorf("ActsOfText(%q): %v", text, ok)
		}
	}
}

// noScript asks that a text is none, for both functions.
func noScript(t *testing.T, text string) {
	t.Helper()
	told := impl.RunMesh(text)
	if acts, ok := impl.ActsOfText(text); told != "" || ok || len(acts) != 0 {
		t.Errorf("%.100q (%d bytes): %.100q, %s, %v", text, len(text), told, short(acts), ok)
	}
	checkScript(t, text)
}

func TestScriptOfMaxScriptBytes(t *testing.T) {
	fill := func(n int) string { return strings.Repeat("x", n) }
	for _, c := range []struct{ ahead, behind, told string }{
		{"", "\n", "what\n"},
		{"tick 1\n", "\n", "ok\nwhat\n"},
		{"enrol p/a\nenrol ", "\nforce p/a\n", "ok\nno 1\nforce 0\n"},
		{"policy ", "\ndelivered\n", "no 1\ndelivered\n"},
		{"enrol p/a\nforge p/a get / ", "\n", "ok\nno 1\n"},
	} {
		most := 3000 - len(c.ahead) - len(c.behind)
		for n := most - 2; n <= most; n++ {
			if told, _ := checkScript(t, c.ahead+fill(n)+c.behind); told != c.told {
				t.Errorf("%q .. %q with %d: %.100q", c.ahead, c.behind, n, told)
			}
		}
		noScript(t, c.ahead+fill(most+1)+c.behind)
		noScript(t, c.ahead+fill(most+2)+c.behind)
		noScript(t, c.ahead+fill(most+len(c.behind)))
	}
	// It is bytes that count, not letters.
	if told, _ := checkScript(t, strings.Repeat("ä", 1499)+"x\n"); told != "what\n" {
		t.Errorf("%.100q", told)
	}
	noScript(t, strings.Repeat("ä", 1500)+"\n")
	// A policy may be too long in a script that is not.
	answers(t, nil, "policy "+strings.Repeat("allow a/b get /+", 29)+"allow a/b get /", "ok")
	answers(t, nil, "policy "+strings.Repeat("allow a/b get /+", 30)+"allow a/b get /", "no 1")
	long := "+" + modelText(ruleOfLength(49))
	answers(t, nil, "policy "+strings.Repeat(long, 30)[1:], "ok")
	answers(t, nil, "policy "+strings.Repeat(long, 29)[1:]+"+"+modelText(ruleOfLength(50)), "no 1")
}

func TestScriptOfMaxLines(t *testing.T) {
	for line, answer := range map[string]string{"": "what", "tick 1": "ok", "delivered": "delivered", "fly": "what", "tick 0": "no 1", "force p/a": "no"} {
		for n := 118; n <= 120; n++ {
			if told, _ := checkScript(t, strings.Repeat(line+"\n", n)); told != strings.Repeat(answer+"\n", n) {
				t.Errorf("%d times %q: %.100q", n, line, told)
			}
		}
		for _, n := range []int{121, 122, 240} {
			noScript(t, strings.Repeat(line+"\n", n))
		}
		noScript(t, strings.Repeat(line+"\n", 120)+"x")
		noScript(t, strings.Repeat(line+"\n", 119)+"x")
	}
	// MaxActs acts are MaxLines lines: all of them count, whatever their codes are.
	text := strings.Repeat("tick 1\ntick 0\nenrol p/a\nenrol x\n", 30)
	told, acts := checkScript(t, text)
	if len(acts) != impl.MaxActs || !strings.HasPrefix(told, "ok\nno 1\nok\nno 1\nok\nno 1\nno 2\nno 1\n") || strings.Contains(told, "what") {
		t.Errorf("%d, %.100q", len(acts), told)
	}
	if m, codes, ok := impl.PlayMesh(acts); !ok || len(codes) != 120 || m.Now != 30 {
		t.Error(short(m), codes, ok)
	}
}

// freeFrom tells where the text of a line begins that may be anything: behind the first blank of a policy, behind the fourth of a forged token.
func freeFrom(line string) int {
	blanks := map[string]int{"policy": 1, "forge": 4}[strings.Fields(line)[0]]
	if blanks == 0 {
		return len(line) + 1
	}
	from := 0
	for range blanks {
		from += strings.Index(line[from:], " ") + 1
	}
	return from
}

// askBlanks asks a line with blanks too many: they make no line of it, but in a policy and a token they stand in the text, which is none then.
func askBlanks(t *testing.T, line string, free bool) {
	t.Helper()
	if !free {
		countsNot(t, line)
		return
	}
	answers(t, []string{"enrol p/a", "enrol p/b"}, line, "no 1")
	if acts, ok := impl.ActsOfText(line + "\n"); !ok || len(acts) != 1 {
		t.Errorf("ActsOfText(%q) = %s, %v", line, short(acts), ok)
	}
}

func TestLineBlanks(t *testing.T) {
	for _, c := range lineKinds {
		from := freeFrom(c.line)
		for i := range len(c.line) {
			if c.line[i] != ' ' {
				continue
			}
			askBlanks(t, c.line[:i]+" "+c.line[i:], i+1 >= from)
			askBlanks(t, c.line[:i]+"  "+c.line[i:], i+1 >= from)
			if from > len(c.line) {
				countsNot(t, c.line[:i]+c.line[i+1:])
				countsNot(t, c.line[:i]+"\t"+c.line[i+1:])
				countsNot(t, c.line[:i]+"\u00a0"+c.line[i+1:])
			}
		}
		askBlanks(t, c.line+" ", from <= len(c.line))
		askBlanks(t, c.line+"  ", from <= len(c.line))
		countsNot(t, " "+c.line)
		countsNot(t, "  "+c.line)
		countsNot(t, "\t"+c.line)
	}
	for _, line := range []string{"", " ", "  ", "\t", "\r"} {
		countsNot(t, line)
	}
}

// A word too few and a word too many, at each place of each line.
func TestLineWords(t *testing.T) {
	for _, c := range lineKinds {
		words := strings.Split(c.line, " ")
		if freeFrom(c.line) > len(c.line) {
			for i := range words {
				countsNot(t, strings.Join(slices.Delete(slices.Clone(words), i, i+1), " "))
			}
			for i := range len(words) + 1 {
				countsNot(t, strings.Join(slices.Insert(slices.Clone(words), i, "p/b"), " "))
				countsNot(t, strings.Join(slices.Insert(slices.Clone(words), i, "1"), " "))
			}
		}
		// The first word is written just so.
		for _, first := range []string{strings.ToUpper(words[0]), strings.ToUpper(words[0][:1]) + words[0][1:], words[0][1:], words[0][:len(words[0])-1], words[0] + "s", words[0] + ":", "x" + words[0], "\xef\xbb\xbf" + words[0], words[0] + "\x00"} {
			countsNot(t, strings.Join(append([]string{first}, words[1:]...), " "))
		}
		if c.line != "delivered" {
			countsNot(t, words[0])
			if words[0] != "policy" {
				countsNot(t, words[0]+" ")
			}
		}
	}
	for _, line := range []string{
		"fly", "what", "ok", "no", "none", "coming", "allow p/a * /**", "p/a p/b 1 0 9;", "0", "#", "+", "deny", "get", "enrol", "help",
		"tick p/a", "mail 0 p/a", "mail p/a p/b", "hop p/a p/b 0 get /x", "ask p/a p/b get /x p/a", "ask p/a p/b 5 get /x", "hop 0 p/a p/b get /x",
		"delivered p/a", "force", "log", "tick 5;",
	} {
		countsNot(t, line)
	}
}

func TestLineNumbers(t *testing.T) {
	good := map[string]int{"0": 0, "1": 1, "9": 9, "10": 10, "42": 42, "100": 100, "99999": 99999, "100000": 100000, "100001": 100001, "123456": 123456, "999999": 999999}
	bad := []string{
		"1234567", "1000000", "9999999", "0000001", "99999999999999999999999", "18446744073709551617",
		"00", "01", "007", "000000", "000001", "0100", "+1", "-1", "-0", "+0", "-100000", "-12345", "--1", "1-", "1+",
		"-", "+", "x", "a1", "1a", "1.", ".1", "1.0", "1e3", "1_0", "0x1", "0b1", "0o7", "1,0", "1;", "'1'", "\"1\"",
		"١", "１", "²", "1\xff", "\xff", "1\x00", "\x001", "1\t", "\t1", "1\r", "N", "none",
	}
	lines := []string{"tick %s", "mail p/a %s", "ask p/a p/b get /x %s", "hop p/b %s p/a get /x"}
	for _, form := range lines {
		for word, n := range good {
			line := fmt.Sprintf(form, word)
			acts, ok := impl.ActsOfText(line + "\n")
			if !ok || len(acts) != 1 || acts[0].N != n {
				t.Errorf("ActsOfText(%q) = %s, %v", line, short(acts), ok)
			}
			checkScript(t, scriptOf("enrol p/a", "policy none", line))
		}
		for _, word := range bad {
			countsNot(t, fmt.Sprintf(form, word))
		}
		countsNot(t, fmt.Sprintf(form, ""))
	}
	for _, c := range []toldLine{{"tick 0", "no 1"}, {"tick 1", "ok"}, {"tick 100000", "ok"}, {"tick 100001", "no 1"}, {"tick 999999", "no 1"}} {
		answers(t, nil, c.line, c.answer)
	}
	start := []string{"policy allow */* * /**", "enrol p/a", "enrol p/b", "push p/a", "push p/b", "ask p/a p/b get /x 5", "decide p/b"}
	for _, c := range []toldLine{
		{"mail p/a 0", "ok"}, {"mail p/a 2", "ok"}, {"mail p/a 3", "no 1"}, {"mail p/a 999999", "no 1"},
		{"ask p/a p/b get /x 0", "ok"}, {"ask p/a p/b get /x 100000", "ok"}, {"ask p/a p/b get /x 100001", "no 1"}, {"ask p/a p/b get /x 999999", "no 1"},
		{"hop p/b 0 p/a get /x", "ok"}, {"hop p/b 1 p/a get /x", "no 2"}, {"hop p/b 999999 p/a get /x", "no 2"},
	} {
		answers(t, start, c.line, c.answer)
	}
}

func TestLinePolicy(t *testing.T) {
	a, b, c := "allow p/a get /x", "deny p/b * /**", "allow */* put /"
	for _, p := range []struct{ line, text, answer string }{
		{"policy none", "", "ok"},
		{"policy " + a, a + "\n", "ok"},
		{"policy " + a + "+" + b, a + "\n" + b + "\n", "ok"},
		{"policy " + a + "+" + b + "+" + c + "+" + a, a + "\n" + b + "\n" + c + "\n" + a + "\n", "ok"},
		{"policy " + a + "+", a + "\n\n", "no 1"},
		{"policy +" + a, "\n" + a + "\n", "no 1"},
		{"policy " + a + "++" + b, a + "\n\n" + b + "\n", "no 1"},
		{"policy +", "\n\n", "no 1"},
		{"policy ", "\n", "no 1"},
		{"policy  ", " \n", "no 1"},
		{"policy  none", " none\n", "no 1"},
		{"policy none ", "none \n", "no 1"},
		{"policy None", "None\n", "no 1"},
		{"policy none+", "none\n\n", "no 1"},
		{"policy none+none", "none\nnone\n", "no 1"},
		{"policy none+" + a, "none\n" + a + "\n", "no 1"},
		{"policy " + a + "+none", a + "\nnone\n", "no 1"},
		{"policy " + a + " + " + b, a + " \n " + b + "\n", "no 1"},
		{"policy " + a + ";" + b, a + ";" + b + "\n", "no 1"},
		{"policy " + a + " " + b, a + " " + b + "\n", "no 1"},
		{"policy x", "x\n", "no 1"},
		{"policy \xff", "\xff\n", "no 1"},
		{"policy " + a + "\r", a + "\r\n", "no 1"},
		{"policy " + a + "\x00", a + "\x00\n", "no 1"},
	} {
		countsAs(t, p.line, actPolicy(p.text))
		answers(t, nil, p.line, p.answer)
		// With a fault the policy that stands there stays the last one.
		force := "force 1"
		if p.answer == "ok" {
			force = "force 2"
		}
		answers(t, []string{"enrol p/a", "policy none", p.line, "push p/a"}, "force p/a", force)
	}
	countsNot(t, "policy")
	countsNot(t, "policynone")
	countsNot(t, " policy none")
	countsNot(t, "none")
	// What was told counts: the rules are in force as they stand.
	start := []string{"policy allow p/a * /**+deny p/a put /x", "enrol p/a", "enrol p/b", "push p/b"}
	for _, c := range []toldLine{{"ask p/a p/b get /x 5", "ok"}, {"ask p/a p/b put /x 5", "no 7"}, {"ask p/a p/b put /y 5", "ok"}, {"ask p/b p/b get /x 5", "no 7"}} {
		answers(t, append(slices.Clone(start), c.line), "decide p/b", c.answer)
	}
}

func TestLineForge(t *testing.T) {
	one, two, six := "p/z p/b 9 0 50;", "p/a p/b 1 0 5;p/b p/a 2 0 5;", modelTokenText(chainOf(6))
	start := []string{"policy allow */* * /**", "enrol p/a", "enrol p/b", "push p/a", "push p/b"}
	for _, c := range []struct{ text, answer string }{
		{one, "ok"}, {two, "ok"}, {six, "ok"},
		{"", "no 1"}, {" ", "no 1"}, {";", "no 1"}, {"none", "no 1"}, {one[:len(one)-1], "no 1"}, {one + ";", "no 1"}, {" " + one, "no 1"}, {one + " ", "no 1"},
		{one + one, "no 1"}, {modelTokenText(chainOf(7)), "no 1"}, {strings.Replace(one, " ", "  ", 1), "no 1"}, {"p/z p/b 09 0 50;", "no 1"}, {"p/z p/b -9 0 50;", "no 1"},
		{"x", "no 1"}, {"\xff", "no 1"}, {one + "\x00", "no 1"}, {one + "\r", "no 1"}, {"p/z+p/b+9+0+50;", "no 1"},
	} {
		countsAs(t, "forge p/b get /x "+c.text, actForge("p/b", "get", "/x", c.text))
		answers(t, start, "forge p/b get /x "+c.text, c.answer)
		answers(t, start, "forge p/c get /x "+c.text, "no 2")
		answers(t, start, "forge p/b post /x "+c.text, "no 1")
		answers(t, start, "forge p/b get x "+c.text, "no 1")
	}
	// Without the fourth blank there is no token, not even an empty one.
	for _, line := range []string{"forge p/b get /x", "forge p/b get", "forge p/b", "forge", "forge p/b get ", "forge p/b ", "forge ", "forge  get /x " + one, "forge p/b  /x " + one, "forge p/b get  " + one} {
		countsNot(t, line)
	}
	// A token that was signed is delivered, of one link and of two.
	start = append(start, "ask p/a p/b get /x 5", "decide p/b", "hop p/b 0 p/a get /x", "forge p/b put /y p/a p/b 1 0 5;", "decide p/b", "crash p/a", "forge p/a put /z "+two, "decide p/a")
	told := answersOf(t, append(start, "log p/a", "log p/b", "delivered")...)
	if want := []string{"log 1 0 0 p/a /z", "log 2 0 0 p/a /y", "delivered p/b p/b p/a"}; !slices.Equal(told[len(start):], want) {
		t.Error(told)
	}
}

func TestLineForce(t *testing.T) {
	start := []string{"enrol p/a", "enrol p/b"}
	for _, c := range []struct {
		lines []string
		told  string
	}{
		{nil, "force 0"},
		{[]string{"policy none"}, "force 0"},
		{[]string{"policy none", "mail p/a 0"}, "force 0 coming 1"},
		{[]string{"policy none", "mail p/a 1"}, "force 0"},
		{[]string{"policy none", "mail p/a 0", "mail p/a 1"}, "force 1"},
		{[]string{"policy none", "push p/a"}, "force 1"},
		{[]string{"policy none", "push p/b"}, "force 0"},
		{[]string{"policy none", "push p/a", "policy none"}, "force 1"},
		{[]string{"policy none", "push p/a", "policy none", "mail p/a 0"}, "force 1 coming 2"},
		{[]string{"policy none", "push p/a", "policy none", "mail p/a 0", "policy none", "mail p/a 0"}, "force 1 coming 3"},
		{[]string{"policy none", "push p/a", "policy none", "mail p/a 0", "crash p/a"}, "force 1"},
		{[]string{"policy none", "push p/a", "policy none", "mail p/a 0", "mail p/a 1"}, "force 2"},
		{[]string{"policy none", "push p/a", "revoke p/a", "mail p/a 0"}, "force 1 coming 2"},
	} {
		answers(t, append(slices.Clone(start), c.lines...), "force p/a", c.told)
	}
	// The numbers go on, though only the last versions are kept.
	many := append(slices.Clone(start), slices.Repeat([]string{"policy none"}, 105)...)
	answers(t, append(many, "push p/a", "policy none", "mail p/a 0"), "force p/a", "force 105 coming 106")
	for _, name := range append([]string{"p/c", "p", "P/a", "*/*", "p/a/", "p/aa", "\xff", "none"}, wordTexts()...) {
		answers(t, start, "force "+name, "no")
		answers(t, start, "log "+name, "no")
		answers(t, nil, "force "+name, "no")
		answers(t, nil, "log "+name, "no")
	}
	answers(t, nil, "force p/a", "no")
	answers(t, nil, "log p/a", "no")
}

// wordTexts tells texts that are one word of a line, but no sidecar's name.
func wordTexts() []string {
	return slices.DeleteFunc(slices.Clone(nearTexts), func(s string) bool {
		return s == "" || len(s) > 2000 || strings.ContainsAny(s, " \n")
	})
}

func TestLineLogAndDelivered(t *testing.T) {
	lines := []string{"policy allow p/a get /**", "enrol p/a", "enrol p/b"}
	answers(t, nil, "delivered", "delivered")
	answers(t, lines, "delivered", "delivered")
	answers(t, lines, "log p/b", "log 0")
	lines = append(lines, "ask p/a p/b get /x 5")
	answers(t, lines, "log p/b", "log 0")
	lines = append(lines, "decide p/b")
	answers(t, lines, "log p/b", "log 1 4 0 p/a /x")
	answers(t, lines, "log p/a", "log 0")
	answers(t, lines, "delivered", "delivered")
	lines = append(lines, "push p/a", "push p/b")
	want := "delivered"
	for n := 2; n < 22; n++ {
		name := []string{"p/a", "p/b"}[n/3%2]
		lines = append(lines, fmt.Sprintf("ask p/a %s get /%d 5", name, n), "decide "+name)
		want += " " + name
		answers(t, lines, "delivered", want)
		if told := answersOf(t, append(slices.Clone(lines), "log "+name)...); !strings.HasSuffix(told[len(lines)], fmt.Sprintf(" 0 0 p/a /%d", n)) {
			t.Error(told)
		}
	}
	answers(t, append(lines, "crash p/b"), "log p/b", "log 11 0 0 p/a /21")
	// The longest note, and as many records as a script has room for.
	who, path := "a1b2c3d4/z9y8x7w6", strings.Repeat("/a1b2c3d4", 6)
	answers(t, []string{"enrol " + who, "forge " + who + " get " + path + " " + who + " " + who + " 1 0 0;", "decide " + who}, "log "+who, "log 1 4 0 "+who+" "+path)
	many := []string{"enrol p/b"}
	for range 59 {
		many = append(many, "forge p/b get / p/z p/b 9 0 5;", "decide p/b")
	}
	answers(t, many, "log p/b", "log 59 4 0 p/z /")
}

// Those that ask change nothing: with them or without them all acts are answered alike.
func TestAskingChangesNothing(t *testing.T) {
	for _, script := range writtenScripts {
		var acts, told []string
		for _, l := range script {
			if _, is := modelActOf(l.line); is {
				acts, told = append(acts, l.line), append(told, l.answer)
			}
		}
		if got := answersOf(t, acts...); !slices.Equal(got, told) {
			t.Error(got)
		}
		for i := range acts {
			more := slices.Insert(slices.Clone(acts), i, "force p/b", "log p/a", "delivered", "fly", "force p/z", "")
			if got := answersOf(t, more...); !slices.Equal(slices.Delete(got, i, i+6), told) {
				t.Error(i, got)
			}
		}
	}
}

// Any byte, in the place of each byte of each line: most are no line any more, some are another act; none is more than that.
func TestLineOddBytes(t *testing.T) {
	start := []string{"policy allow */* * /**", "enrol p/a", "enrol p/b", "push p/b", "ask p/a p/b get /x 5"}
	for _, c := range lineKinds {
		for i := range len(c.line) {
			for _, b := range []byte{0, 1, 9, 11, 13, 31, 32, 43, 127, 128, 160, 0xc3, 0xe2, 0xef, 0xff} {
				line := c.line[:i] + string([]byte{b}) + c.line[i+1:]
				answersOf(t, append(slices.Clone(start), line)...)
			}
			// A line that is cut in two by a byte 10.
			checkScript(t, scriptOf(append(slices.Clone(start), c.line[:i], c.line[i:])...))
		}
	}
	for _, c := range []struct {
		line   string
		act    impl.Act
		answer string
	}{
		{"enrol p/\xff", at(impl.ActEnrol, "p/\xff"), "no 1"},
		{"enrol p/ä", at(impl.ActEnrol, "p/ä"), "no 1"},
		{"enrol p/a\r", at(impl.ActEnrol, "p/a\r"), "no 1"},
		{"enrol p/a\t", at(impl.ActEnrol, "p/a\t"), "no 1"},
		{"enrol p/a\x00", at(impl.ActEnrol, "p/a\x00"), "no 1"},
		{"enrol \xe2\x82", at(impl.ActEnrol, "\xe2\x82"), "no 1"},
		{"push \xff\xfe", at(impl.ActPush, "\xff\xfe"), "no 2"},
		{"ask p/a p/b g\xc3t /x 5", actAsk("p/a", "p/b", "g\xc3t", "/x", 5), "no 1"},
		{"ask p/a p/b get /\xc3 5", actAsk("p/a", "p/b", "get", "/\xc3", 5), "no 1"},
		{"forge p/b get /x \xc3 \xa4\xff", actForge("p/b", "get", "/x", "\xc3 \xa4\xff"), "no 1"},
		{"forge p/\xe2 get /x \xe2\x82 ", actForge("p/\xe2", "get", "/x", "\xe2\x82 "), "no 2"},
		{"policy \xf0\x9f+\x98", actPolicy("\xf0\x9f\n\x98\n"), "no 1"},
	} {
		countsAs(t, c.line, c.act)
		answers(t, start, c.line, c.answer)
	}
}
