package tests

import (
	"fmt"
	"regexp"
	"slices"
	"strconv"
	"strings"
	"testing"

	"loop.example/g00167/impl"
)

// The model reads each line by regular expressions, and plays what it read on the model of the mesh; it calls nothing of the program.

var actForms = []struct {
	kind  int
	form  *regexp.Regexp
	parts []string
}{
	{1, formOf("enrol WORD"), []string{"A"}},
	{2, formOf("revoke WORD"), []string{"A"}},
	{3, formOf("policy ALL"), []string{"R"}},
	{4, formOf("tick NUMBER"), []string{"N"}},
	{5, formOf("mail WORD NUMBER"), []string{"A", "N"}},
	{6, formOf("push WORD"), []string{"A"}},
	{7, formOf("ask WORD WORD WORD WORD NUMBER"), []string{"A", "B", "M", "P", "N"}},
	{8, formOf("hop WORD NUMBER WORD WORD WORD"), []string{"A", "N", "B", "M", "P"}},
	{9, formOf("forge WORD WORD WORD ALL"), []string{"B", "M", "P", "T"}},
	{10, formOf("decide WORD"), []string{"A"}},
	{11, formOf("crash WORD"), []string{"A"}},
}

var askForm = formOf("(force|log) WORD")

func formOf(s string) *regexp.Regexp {
	return regexp.MustCompile("^" + strings.NewReplacer("WORD", `([^ ]+)`, "NUMBER", `(0|[1-9][0-9]{0,5})`, "ALL", `((?s:.*))`).Replace(s) + "$")
}

func modelScript(text string) ([]string, bool) {
	if text == "" {
		return nil, true
	}
	whole, ended := strings.CutSuffix(text, "\n")
	lines := strings.Split(whole, "\n")
	if !ended || len(text) > 3000 || len(lines) > 120 {
		return nil, false
	}
	return lines, true
}

func modelActOf(line string) (impl.Act, bool) {
	for _, f := range actForms {
		read := f.form.FindStringSubmatch(line)
		if read == nil {
			continue
		}
		told := map[string]string{}
		for i, part := range f.parts {
			told[part] = read[i+1]
		}
		n, _ := strconv.Atoi(told["N"])
		a := impl.Act{Kind: f.kind, A: told["A"], B: told["B"], N: n, Method: told["M"], Path: told["P"], Text: told["T"]}
		if f.kind == 3 && told["R"] != "none" {
			a.Text = strings.Join(strings.Split(told["R"], "+"), "\n") + "\n"
		}
		return a, true
	}
	return impl.Act{}, false
}

func modelActs(text string) ([]impl.Act, bool) {
	lines, ok := modelScript(text)
	var acts []impl.Act
	for _, line := range lines {
		if a, is := modelActOf(line); is {
			acts = append(acts, a)
		}
	}
	return acts, ok
}

func modelRun(text string) string {
	lines, _ := modelScript(text)
	m := newMeshModel()
	told := ""
	for _, line := range lines {
		told += modelAnswer(m, line) + "\n"
	}
	return told
}

func modelAnswer(m *meshModel, line string) string {
	if a, ok := modelActOf(line); ok {
		return answerOfCode(m.act(a))
	}
	return answerOfMesh(m.told(), line)
}

func answerOfCode(code int) string {
	if code == 0 {
		return "ok"
	}
	return fmt.Sprintf("no %d", code)
}

// answerOfMesh tells what a line that is no act is answered by a mesh.
func answerOfMesh(m impl.Mesh, line string) string {
	if line == "delivered" {
		for _, d := range m.Delivered {
			line += " " + d.At
		}
		return line
	}
	asked := askForm.FindStringSubmatch(line)
	if asked == nil {
		return "what"
	}
	i := slices.IndexFunc(m.Sidecars, func(c impl.Sidecar) bool { return c.Name == asked[2] })
	if i < 0 {
		return "no"
	}
	c := m.Sidecars[i]
	switch {
	case asked[1] == "force" && c.Side.Coming != 0:
		return fmt.Sprintf("force %d coming %d", c.Side.Force.Number, c.Side.Coming)
	case asked[1] == "force":
		return fmt.Sprintf("force %d", c.Side.Force.Number)
	case len(c.Log) == 0:
		return "log 0"
	}
	return fmt.Sprintf("log %d %s", len(c.Log), c.Log[len(c.Log)-1].Note)
}

// scriptOf tells lines as a text.
func scriptOf(lines ...string) string {
	var text strings.Builder
	for _, line := range lines {
		text.WriteString(line + "\n")
	}
	return text.String()
}

// checkScript asks both functions of any text, holds their answers against the model's and against each other, and tells them.
func checkScript(t *testing.T, text string) (string, []impl.Act) {
	t.Helper()
	told, again := impl.RunMesh(text), impl.RunMesh(text)
	if want := modelRun(text); told != want || again != told {
		t.Fatalf("RunMesh(%.300q) = %.300q, %.300q; asked: %.300q", text, told, again, want)
	}
	acts, ok := impl.ActsOfText(text)
	more, _ := impl.ActsOfText(text)
	if want, is := modelActs(text); ok != is || !slices.Equal(acts, want) || !slices.Equal(acts, more) {
		t.Fatalf("ActsOfText(%.300q) = %s, %v; asked: %s, %v", text, short(acts), ok, short(want), is)
	}
	if !apart(acts, more) {
		t.Fatalf("ActsOfText(%.300q) shared", text)
	}
	if !ok && (told != "" || len(acts) > 0) || ok && strings.Count(told, "\n") != strings.Count(text, "\n") {
		t.Fatalf("%.300q: %.300q, %s, %v", text, told, short(acts), ok)
	}
	return told, acts
}

// answersOf tells the answer of each line.
func answersOf(t *testing.T, lines ...string) []string {
	t.Helper()
	told, _ := checkScript(t, scriptOf(lines...))
	answers, ended := strings.CutSuffix(told, "\n")
	if !ended || strings.Count(told, "\n") != len(lines) {
		t.Fatalf("%.300q: %.300q", lines, told)
	}
	return strings.Split(answers, "\n")
}

// answers asks that a line behind others is answered so.
func answers(t *testing.T, ahead []string, line string, want string) {
	t.Helper()
	if told := answersOf(t, append(slices.Clone(ahead), line)...); told[len(ahead)] != want {
		t.Errorf("%.300q behind %.300q: %q; asked: %q", line, ahead, told[len(ahead)], want)
	}
}

// countsAs asks that a line is just this act.
func countsAs(t *testing.T, line string, want impl.Act) {
	t.Helper()
	if acts, ok := impl.ActsOfText(line + "\n"); !ok || len(acts) != 1 || acts[0] != want {
		t.Errorf("ActsOfText(%.300q) = %s, %v; asked: %s", line, short(acts), ok, short(want))
	}
}

// countsNot asks that a line is no act, and is told `what`, wherever it stands.
func countsNot(t *testing.T, line string) {
	t.Helper()
	if acts, ok := impl.ActsOfText(line + "\n"); !ok || len(acts) != 0 {
		t.Errorf("ActsOfText(%.300q) = %s, %v", line, short(acts), ok)
	}
	answers(t, nil, line, "what")
	answers(t, []string{"policy allow */* * /**", "enrol p/a", "enrol p/b", "push p/b", "ask p/a p/b get /x 5"}, line, "what")
}
