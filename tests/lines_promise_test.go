package tests

import (
	"fmt"
	"math/rand/v2"
	"slices"
	"strings"
	"testing"

	"loop.example/g00167/impl"
)

// The ninth promise in its own words, on the program's answers: a script's answers do not hang on what follows.

// lineOfAct writes an act as a line; of what a line can't tell it tells something near.
func lineOfAct(a impl.Act) string {
	switch a.Kind {
	case impl.ActPolicy:
		if a.Text == "" {
			return "policy none"
		}
		return "policy " + strings.ReplaceAll(strings.TrimSuffix(a.Text, "\n"), "\n", "+")
	case impl.ActTick:
		return fmt.Sprint("tick ", a.N)
	case impl.ActMail:
		return fmt.Sprintf("mail %s %d", a.A, a.N)
	case impl.ActAsk:
		return fmt.Sprintf("ask %s %s %s %s %d", a.A, a.B, a.Method, a.Path, a.N)
	case impl.ActHop:
		return fmt.Sprintf("hop %s %d %s %s %s", a.A, a.N, a.B, a.Method, a.Path)
	case impl.ActForge:
		return fmt.Sprintf("forge %s %s %s %s", a.B, a.Method, a.Path, a.Text)
	}
	return kindNames[a.Kind] + " " + a.A
}

func askingLine(rnd *rand.Rand) string {
	if rnd.IntN(4) == 0 {
		return "delivered"
	}
	return oneOf(rnd, []string{"force ", "log "}) + oneOf(rnd, append(meshNames, "p/z"))
}

// oddLine spoils a line a little.
func oddLine(rnd *rand.Rand, line string) string {
	i := rnd.IntN(len(line) + 1)
	switch rnd.IntN(5) {
	case 0:
		return line[:i] + " " + line[i:]
	case 1:
		return line[:i] + string([]byte{byte(rnd.IntN(256))}) + line[i:]
	case 2:
		return line[:i]
	case 3:
		return strings.ReplaceAll(line, " ", oneOf(rnd, []string{"", "  ", "\t", "+"}))
	}
	return line + oneOf(rnd, []string{" ", " 1", " p/a", "0", "+", ";", "\r"})
}

// randomScript tells as many lines as so many bytes hold: acts that fit what was told ahead of them, and between them lines that ask and lines that are spoilt.
func randomScript(rnd *rand.Rand, bytes int) []string {
	w := newMeshWalk(nil, rnd, nil)
	var lines []string
	add := func(line string) bool {
		bytes -= len(line) + 1
		if bytes < 0 || len(lines) == impl.MaxLines {
			return false
		}
		lines = append(lines, line)
		modelAnswer(w.model, line)
		w.mesh = w.model.told()
		return true
	}
	for _, a := range ready(oneOf(rnd, meshPolicies[:4]), meshNames[:2+rnd.IntN(4)]...) {
		if !add(lineOfAct(a)) {
			return lines
		}
	}
	for {
		line := lineOfAct(w.act())
		switch rnd.IntN(12) {
		case 0, 1, 2:
			line = askingLine(rnd)
		case 3:
			line = strings.ReplaceAll(oddLine(rnd, line), "\n", "")
		}
		if !add(line) {
			return lines
		}
	}
}

// firstLines tells the first n lines of a text.
func firstLines(text string, n int) string {
	return strings.Join(strings.SplitAfter(text, "\n")[:n], "")
}

// hangsOnNothingBehind asks each front of a script: its answers are the first ones of the whole, its acts too; those acts, played, tell the codes that the lines tell; and the mesh that they lead to is the one that is asked.
func hangsOnNothingBehind(t *testing.T, lines []string) {
	t.Helper()
	whole := impl.RunMesh(scriptOf(lines...))
	acts, ok := impl.ActsOfText(scriptOf(lines...))
	if !ok || strings.Count(whole, "\n") != len(lines) {
		t.Fatalf("%.300q: %.300q, %v", lines, whole, ok)
	}
	told := strings.Split(whole, "\n")
	counted := 0
	mesh := impl.NewMesh()
	for n, line := range lines {
		if front := impl.RunMesh(scriptOf(lines[:n]...)); front != firstLines(whole, n) {
			t.Fatalf("%.300q: %.300q, but ahead of more lines %.300q", lines[:n], front, firstLines(whole, n))
		}
		front, ok := impl.ActsOfText(scriptOf(lines[:n+1]...))
		if !ok || len(front) < counted || len(front) > counted+1 || !slices.Equal(front, acts[:len(front)]) {
			t.Fatalf("%.300q: %s, %v", lines[:n+1], short(front), ok)
		}
		want := answerOfMesh(mesh, line)
		if len(front) > counted {
			m, codes, ok := impl.PlayMesh(front)
			if !ok {
				t.Fatal(short(front))
			}
			mesh, want = m, answerOfCode(codes[counted])
		}
		if told[n] != want {
			t.Fatalf("%.300q: line %d is told %q; its acts tell %q", lines, n+1, told[n], want)
		}
		counted = len(front)
	}
	if counted != len(acts) {
		t.Fatalf("%d acts of %d", counted, len(acts))
	}
}

func TestAnswersDoNotHangOnWhatFollows(t *testing.T) {
	for _, script := range writtenScripts {
		hangsOnNothingBehind(t, linesOf(script))
	}
	hangsOnNothingBehind(t, slices.Repeat([]string{"", "fly", "tick 1", "delivered"}, 30))
	told := map[string]int{}
	for round := range 60 {
		lines := randomScript(rand.New(rand.NewPCG(9, uint64(round))), impl.MaxScript)
		hangsOnNothingBehind(t, lines)
		for i, answer := range answersOf(t, lines...) {
			word, _, _ := strings.Cut(lines[i], " ")
			if a, is := modelActOf(lines[i]); is {
				word = kindNames[a.Kind]
			} else if answer == "what" {
				word = "what"
			}
			// Of what was asked for only the form counts here: how many words it has, four standing for more, too.
			if word == "force" || word == "log" || word == "delivered" {
				answer = fmt.Sprint(min(4, len(strings.Fields(answer))))
			}
			told[word+" "+answer]++
		}
	}
	for _, what := range []string{
		"enrol ok", "enrol no 2", "revoke ok", "policy ok", "tick ok", "tick no 1", "mail ok", "mail no 1", "push ok",
		"ask ok", "ask no 1", "ask no 2", "ask no 3", "hop ok", "hop no 2", "forge ok", "forge no 1",
		"decide ok", "decide no 2", "decide no 4", "decide no 6", "decide no 7", "crash ok", "what what",
		"force 1", "force 2", "force 4", "log 1", "log 2", "log 4", "delivered 1", "delivered 2", "delivered 4",
	} {
		if told[what] < 3 {
			t.Errorf("%s only %d times", what, told[what])
		}
	}
}

// Whatever follows, the answers ahead of it stay: other scripts, lines that are none, and what undoes all that was done.
func TestAnswersAheadOfOtherLines(t *testing.T) {
	rnd := rand.New(rand.NewPCG(9, 100))
	tails := [][]string{
		{"crash p/a", "crash p/b", "revoke p/a", "revoke p/b", "policy none", "push p/a", "push p/b"},
		{"", " ", "fly", "\xff", "tick", "policy", "forge"},
		{"tick 100000", "decide p/a", "decide p/b", "delivered"},
		{"policy x", "enrol x", "hop p/b 0 p/a get /x", "force p/a"},
	}
	for round := range 60 {
		front := linesOf(writtenScripts[round%4])
		if round > 7 {
			front = randomScript(rnd, 1500)
		}
		front = front[:min(len(front), 60)]
		told := impl.RunMesh(scriptOf(front...))
		acts, _ := impl.ActsOfText(scriptOf(front...))
		for _, tail := range append(tails, randomScript(rnd, 700)) {
			tail = tail[:min(len(tail), 60)]
			text := scriptOf(slices.Concat(front, tail)...)
			longer, more := checkScript(t, text)
			if len(text) > impl.MaxScript || !strings.HasPrefix(longer, told) || !slices.Equal(more[:len(acts)], acts) {
				t.Fatalf("%.300q ahead of %.300q: %.300q, %.300q", front, tail, told, longer)
			}
		}
	}
}

// Each script begins with a new mesh: what was run ahead of it is not seen in it.
func TestScriptsOneAfterTheOther(t *testing.T) {
	for _, a := range writtenScripts {
		for _, b := range writtenScripts {
			impl.RunMesh(scriptOf(linesOf(a)...))
			for i, answer := range answersOf(t, linesOf(b)...) {
				if answer != b[i].answer {
					t.Errorf("%q: %q; asked: %q", b[i].line, answer, b[i].answer)
				}
			}
		}
	}
}

// The tenth promise for this chapter: any text at all.

func TestAnyScript(t *testing.T) {
	rnd := rand.New(rand.NewPCG(9, 1000))
	for round := range 600 {
		lines := randomScript(rnd, oneOf(rnd, []int{0, 20, 200, 1000, 2000, 3000}))
		text := []byte(scriptOf(lines...))
		for range rnd.IntN(1 + len(text)/20) {
			i := rnd.IntN(len(text))
			switch rnd.IntN(4) {
			case 0:
				text[i] = byte(rnd.IntN(256))
			case 1:
				text[i] = oneOf(rnd, []byte(" \n+;0/-p"))
			case 2:
				text = slices.Delete(text, i, min(len(text), i+1+rnd.IntN(3)))
			case 3:
				text = slices.Insert(text, i, text[:min(len(text), rnd.IntN(12))]...)
			}
			if len(text) == 0 {
				break
			}
		}
		if round%3 > 0 {
			text = append(text, '\n')
		}
		checkScript(t, string(text))
	}
}

// Texts of which no part is anything.
func TestAnyTextAsAScript(t *testing.T) {
	rnd := rand.New(rand.NewPCG(9, 1001))
	words := append(slices.DeleteFunc(slices.Clone(nearTexts), func(s string) bool { return len(s) > 100 }),
		"enrol", "revoke", "policy", "tick", "mail", "push", "ask", "hop", "forge", "decide", "crash", "force", "log", "delivered",
		"p/a", "p/b", "get", "put", "/x", "0", "1", "5", "none", "allow */* * /**", "p/a p/b 1 0 5;", "\n", "\n", "\x00", "\xff")
	for range 1500 {
		var text strings.Builder
		for range rnd.IntN(200) {
			text.WriteString(oneOf(rnd, words))
			text.WriteString(oneOf(rnd, []string{" ", " ", " ", "\n", "\n", "", "+", "  "}))
		}
		s := text.String()
		checkScript(t, s)
		checkScript(t, s[:min(len(s), 2999)]+"\n")
	}
	for range 1500 {
		text := make([]byte, rnd.IntN(400))
		for i := range text {
			text[i] = byte(rnd.IntN(256))
		}
		checkScript(t, string(text))
		checkScript(t, string(text)+"\n")
	}
	for _, s := range nearTexts {
		checkScript(t, s)
		checkScript(t, s+"\n")
	}
	for _, s := range textsOf(" \n+pt1", 4) {
		checkScript(t, s)
		checkScript(t, "tick 1"+s)
		checkScript(t, "policy"+s)
	}
}

func TestScriptFarTooLong(t *testing.T) {
	for _, line := range []string{"", "tick 1", "delivered", "enrol p/a", "policy allow */* * /**", "\xff"} {
		noScript(t, strings.Repeat(line+"\n", 100000))
		noScript(t, strings.Repeat(line+"\n", 100000)+"x")
	}
	for _, s := range []string{"x", " ", "+", "\xff", "0"} {
		long := strings.Repeat(s, 1000000)
		noScript(t, long)
		noScript(t, long+"\n")
		noScript(t, "policy "+long+"\n")
		noScript(t, "enrol p/a\nforge p/a get / "+long+"\n")
	}
}

// What becomes of one answer is not seen in another one.
func TestLineAnswersAreNew(t *testing.T) {
	rnd := rand.New(rand.NewPCG(9, 1002))
	for range 20 {
		text := scriptOf(randomScript(rnd, impl.MaxScript)...)
		a, _ := impl.ActsOfText(text)
		b, _ := impl.ActsOfText(text)
		if !apart(a, b) || len(a) == 0 {
			t.Fatal("shared")
		}
		kept := standing(b)
		m, codes, _ := impl.PlayMesh(b)
		if !apart(a, b, m, codes) {
			t.Fatal("shared")
		}
		wipe(a)
		a = append(a[:0], impl.Act{Kind: 99})
		c, _ := impl.ActsOfText(text)
		if standing(b) != kept || !slices.Equal(b, c) {
			t.Fatal("changed")
		}
	}
}

func FuzzLines(f *testing.F) {
	for _, script := range writtenScripts {
		f.Add(scriptOf(linesOf(script)...))
	}
	f.Add("")
	f.Add("policy none\nenrol p/a\npush p/a\nforce p/a")
	f.Fuzz(func(t *testing.T, text string) {
		checkScript(t, text)
		checkScript(t, text+"\n")
		if lines, ok := modelScript(text); ok && len(lines) < 40 {
			hangsOnNothingBehind(t, lines)
		}
	})
}
