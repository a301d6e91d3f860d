package tests

import (
	"math/rand/v2"
	"slices"
	"strings"
	"testing"

	"loop.example/g00167/impl"
)

var ordinary = []impl.Rule{
	{Who: "prod/*", Method: "*", Path: "/**"},
	{Deny: true, Who: "*/db", Method: "put", Path: "/a/*"},
	{Who: "dev/web", Method: "get", Path: "/"},
}

const ordinaryText = "allow prod/* * /**\ndeny */db put /a/*\nallow dev/web get /\n"

func TestPolicyConstants(t *testing.T) {
	got := []int{impl.MaxRules, impl.MaxPolicy, impl.DecideAllow, impl.DecideDeny, impl.DecideNone, impl.PolicyOk, impl.PolicyLong, impl.PolicyWord, impl.PolicyMany}
	if !slices.Equal(got, []int{30, 1500, 1, 2, 3, 0, 1, 2, 3}) {
		t.Error(got)
	}
}

func TestGoodRuleAndCall(t *testing.T) {
	methods := []string{"", "get", "put", "*", "**", "Get", "get ", " put", "getput", "post", "g", "get\n"}
	for _, who := range append([]string{"a/b"}, nearTexts...) {
		for _, method := range methods {
			for _, path := range []string{"/", "/a", "/**", "/a/*", "", "a", "/a/"} {
				checkRuleAndCall(t, who, method, path)
			}
		}
	}
	for _, path := range nearTexts {
		for _, method := range methods {
			for _, who := range []string{"a/b", "*/b", "*/*", "", "a", "/a/b"} {
				checkRuleAndCall(t, who, method, path)
			}
		}
	}
}

func checkRuleAndCall(t *testing.T, who, method, path string) {
	c := impl.Call{Who: who, Method: method, Path: path}
	if got, want := impl.GoodCall(c), modelGoodCall(c); got != want {
		t.Errorf("GoodCall(%.60q) = %v", c, got)
	}
	for _, deny := range []bool{false, true} {
		r := impl.Rule{Deny: deny, Who: who, Method: method, Path: path}
		want := modelGoodRule(r)
		if got := impl.GoodRule(r); got != want {
			t.Errorf("GoodRule(%s) = %v", short(r), got)
		}
		text, ok := impl.RuleText(r)
		if ok != want || ok && text != modelText(r) || !ok && text != "" {
			t.Errorf("RuleText(%s) = %q, %v", short(r), text, ok)
		}
	}
}

func TestPolicyTextOrdinary(t *testing.T) {
	if s, ok := impl.PolicyText(ordinary); s != ordinaryText || !ok {
		t.Errorf("%q, %v", s, ok)
	}
	l, line, code := impl.ReadPolicy(ordinaryText)
	if !slices.Equal(l, ordinary) || line != 0 || code != impl.PolicyOk {
		t.Error(l, line, code)
	}
}

func TestNoRules(t *testing.T) {
	c := impl.Call{Who: "a/b", Method: "get", Path: "/"}
	for _, l := range [][]impl.Rule{nil, {}} {
		if s, ok := impl.PolicyText(l); s != "" || !ok {
			t.Error(s, ok)
		}
		if p, ok := impl.PlainPolicy(l); len(p) != 0 || !ok {
			t.Error(p, ok)
		}
		if a, k, ok := impl.DecideCall(l, c); a != impl.DecideNone || k != -1 || !ok {
			t.Error(a, k, ok)
		}
		if a, k, ok := impl.DecideByIndex(l, c); a != impl.DecideNone || k != -1 || !ok {
			t.Error(a, k, ok)
		}
		for _, w := range []string{"", "a", "*", "**"} {
			if x, ok := impl.IndexOf(l, w); len(x) != 0 || !ok {
				t.Error(w, x, ok)
			}
		}
		if is, ok := impl.NeverCounts(l, 0); is || ok {
			t.Error(is, ok)
		}
	}
	if l, line, code := impl.ReadPolicy(""); len(l) != 0 || line != 0 || code != impl.PolicyOk {
		t.Error(l, line, code)
	}
}

func TestMaxRulesMet(t *testing.T) {
	r := impl.Rule{Who: "*/*", Method: "*", Path: "/"}
	c := impl.Call{Who: "a/b", Method: "get", Path: "/"}
	for n := 28; n <= 33; n++ {
		l, good := slices.Repeat([]impl.Rule{r}, n), n <= 30
		text := strings.Repeat("allow */* * /\n", n)
		s, ok := impl.PolicyText(l)
		if ok != good || good && s != text || !good && s != "" {
			t.Error(n, s, ok)
		}
		p, ok := impl.PlainPolicy(l)
		if ok != good || good && !slices.Equal(p, l[:1]) || !good && len(p) != 0 {
			t.Error(n, p, ok)
		}
		if a, k, ok := impl.DecideCall(l, c); ok != good || good && a != impl.DecideAllow || !good && a != 0 || k != 0 {
			t.Error(n, a, k, ok)
		}
		if a, k, ok := impl.DecideByIndex(l, c); ok != good || good && a != impl.DecideAllow || !good && a != 0 || k != 0 {
			t.Error(n, a, k, ok)
		}
		if x, ok := impl.IndexOf(l, ""); ok != good || good && len(x) != n || !good && len(x) != 0 {
			t.Error(n, x, ok)
		}
		if is, ok := impl.NeverCounts(l, n-1); is != good || ok != good {
			t.Error(n, is, ok)
		}
		read, line, code := impl.ReadPolicy(text)
		if good && (!slices.Equal(read, l) || line != 0 || code != impl.PolicyOk) {
			t.Error(n, read, line, code)
		}
		if !good && (len(read) != 0 || line != 31 || code != impl.PolicyMany) {
			t.Error(n, read, line, code)
		}
	}
}

func TestMaxPolicyMet(t *testing.T) {
	for _, extra := range []int{-1, 0, 1, 2, 15} {
		var l []impl.Rule
		for range 24 {
			l = append(l, ruleOfLength(59))
		}
		l = append(l, ruleOfLength(1500-24*60-1+extra-20), ruleOfLength(19))
		var text string
		for _, r := range l {
			text += modelText(r) + "\n"
		}
		if len(text) != 1500+extra {
			t.Fatal(len(text))
		}
		s, ok := impl.PolicyText(l)
		read, line, code := impl.ReadPolicy(text)
		if extra <= 0 {
			if s != text || !ok || !slices.Equal(read, l) || line != 0 || code != impl.PolicyOk {
				t.Error(extra, s, ok, read, line, code)
			}
			continue
		}
		if s != "" || ok || len(read) != 0 || line != 0 || code != impl.PolicyLong {
			t.Error(extra, s, ok, read, line, code)
		}
		// A policy is one however long its text is.
		if p, ok := impl.PlainPolicy(l); !ok || len(p) == 0 {
			t.Error(extra, p, ok)
		}
	}
}

func TestReadPolicyCodes(t *testing.T) {
	good := "allow a/b get /\n"
	many := strings.Repeat(good, 30)
	for _, c := range []struct {
		s          string
		line, code int
	}{
		{"\n", 1, impl.PolicyWord},
		{"x", 1, impl.PolicyWord},
		{"x\n", 1, impl.PolicyWord},
		{good + "\n", 2, impl.PolicyWord},
		{"\n" + good, 1, impl.PolicyWord},
		{good + "x\ny\n", 2, impl.PolicyWord},
		{"allow a/b get /", 1, impl.PolicyWord},
		{good + "allow a/b get /", 2, impl.PolicyWord},
		{good + " ", 2, impl.PolicyWord},
		{good + "\x00", 2, impl.PolicyWord},
		{many, 0, impl.PolicyOk},
		{many + good, 31, impl.PolicyMany},
		{many + good + good, 31, impl.PolicyMany},
		{many + good + "x\n", 31, impl.PolicyMany},
		{many + "x\n", 31, impl.PolicyWord},
		{many + "x\n" + good, 31, impl.PolicyWord},
		{many + "\n", 31, impl.PolicyWord},
		{many + "allow a/b get /", 31, impl.PolicyWord},
		{good + "x\n" + many + good, 2, impl.PolicyWord},
		{strings.Repeat("x", 1500), 1, impl.PolicyWord},
		{strings.Repeat("x", 1501), 0, impl.PolicyLong},
		{strings.Repeat("\n", 1500), 1, impl.PolicyWord},
		{strings.Repeat("\n", 1501), 0, impl.PolicyLong},
		{strings.Repeat(good, 93) + strings.Repeat("\n", 12), 31, impl.PolicyMany},
		{strings.Repeat(good, 93) + strings.Repeat("\n", 13), 0, impl.PolicyLong},
		{"x\n" + strings.Repeat(good, 100), 0, impl.PolicyLong},
	} {
		l, line, code := impl.ReadPolicy(c.s)
		if line != c.line || code != c.code || (len(l) != 0) != (c.code == impl.PolicyOk) {
			t.Errorf("ReadPolicy(%.40q) = %v, %v, %v; asked: %v, %v", c.s, l, line, code, c.line, c.code)
		}
	}
}

func TestReadPolicyLines(t *testing.T) {
	for _, s := range []string{
		"allow  a/b get /", " allow a/b get /", "allow a/b get / ", "allow a/b get", "allow a/b get / /", "allow a/b\tget /", "allow a/b get /\r",
		"Allow a/b get /", "allowed a/b get /", "deny", "denya/b get /", "", " ", "   ", "allow a/b * /", "deny */* put /**", "deny a/b post /",
		"deny a/b ** /", "allow a/b get a", "allow a get /", "allow a/b/c get /", "allow a/b get /**/a", "none */* * /", " a/b get /", "allow /a/b get /",
		"deny a1b2c3d4/z9y8x7w6 put /a1b2c3d4/b/c/d/e/f", "deny a1b2c3d4/z9y8x7w6 put /a1b2c3d4/b/c/d/e/f/g", "allow a/b get /a/b/c/d/e/**",
	} {
		checkLine(t, s)
		for i := range len(s) {
			checkLine(t, s[:i]+s[i+1:])
			for _, b := range []byte(" */a\x00\xff\r") {
				checkLine(t, s[:i]+string([]byte{b})+s[i+1:])
				checkLine(t, s[:i]+string([]byte{b})+s[i:])
			}
		}
	}
}

func checkLine(t *testing.T, s string) {
	l, line, code := impl.ReadPolicy("deny a/b get /\n" + s + "\n")
	if !ruleForm.MatchString(s) {
		if len(l) != 0 || line != 2 || code != impl.PolicyWord {
			t.Errorf("%q: %v, %v, %v", s, l, line, code)
		}
		return
	}
	if len(l) != 2 || modelText(l[1]) != s || line != 0 || code != impl.PolicyOk {
		t.Errorf("%q: %v, %v, %v", s, l, line, code)
	}
}

func TestDecideOrdinary(t *testing.T) {
	for _, c := range []struct {
		who, method, path string
		decision, rule    int
	}{
		{"prod/web", "get", "/", impl.DecideAllow, 0},
		{"prod/db", "put", "/a/b", impl.DecideDeny, 1},
		{"prod/db", "get", "/a/b", impl.DecideAllow, 0},
		{"prod/db", "put", "/a", impl.DecideAllow, 0},
		{"prod/db", "put", "/a/b/c", impl.DecideAllow, 0},
		{"dev/db", "put", "/a/b", impl.DecideDeny, 1},
		{"dev/web", "get", "/", impl.DecideAllow, 2},
		{"dev/web", "put", "/", impl.DecideNone, -1},
		{"dev/web", "get", "/a", impl.DecideNone, -1},
		{"dev/db", "get", "/", impl.DecideNone, -1},
	} {
		call := impl.Call{Who: c.who, Method: c.method, Path: c.path}
		if a, k, ok := impl.DecideCall(ordinary, call); a != c.decision || k != c.rule || !ok {
			t.Errorf("DecideCall of %v = %v, %v, %v", call, a, k, ok)
		}
		if a, k, ok := impl.DecideByIndex(ordinary, call); a != c.decision || k != c.rule || !ok {
			t.Errorf("DecideByIndex of %v = %v, %v, %v", call, a, k, ok)
		}
	}
}

// Of several that speak the first of its kind is told, and a later one that denies goes ahead of all that allow.
func TestDecideFirstOfItsKind(t *testing.T) {
	all, deny := impl.Rule{Who: "*/*", Method: "*", Path: "/**"}, impl.Rule{Deny: true, Who: "*/*", Method: "*", Path: "/"}
	c := impl.Call{Who: "a/b", Method: "put", Path: "/"}
	for _, p := range []struct {
		l              []impl.Rule
		decision, rule int
	}{
		{[]impl.Rule{all, all}, impl.DecideAllow, 0},
		{[]impl.Rule{all, deny, deny}, impl.DecideDeny, 1},
		{[]impl.Rule{deny, all}, impl.DecideDeny, 0},
		{[]impl.Rule{all, all, deny}, impl.DecideDeny, 2},
	} {
		if a, k, ok := impl.DecideCall(p.l, c); a != p.decision || k != p.rule || !ok {
			t.Error(p.l, a, k, ok)
		}
		if a, k, ok := impl.DecideByIndex(p.l, c); a != p.decision || k != p.rule || !ok {
			t.Error(p.l, a, k, ok)
		}
	}
}

func TestDecideAll(t *testing.T) {
	rnd := rand.New(rand.NewPCG(2, 1))
	rules, calls := smallRules(), smallCalls()
	for round := range 120 {
		l := policyOf(rnd, rules, round%31)
		for range 40 {
			c := calls[rnd.IntN(len(calls))]
			decision, rule := modelDecide(l, c)
			if a, k, ok := impl.DecideCall(l, c); a != decision || k != rule || !ok {
				t.Fatalf("DecideCall(%v, %v) = %v, %v, %v; asked: %v, %v", l, c, a, k, ok, decision, rule)
			}
			if a, k, ok := impl.DecideByIndex(l, c); a != decision || k != rule || !ok {
				t.Fatalf("DecideByIndex(%v, %v) = %v, %v, %v; asked: %v, %v", l, c, a, k, ok, decision, rule)
			}
		}
	}
}

func TestIndexOf(t *testing.T) {
	var l []impl.Rule
	for _, path := range []string{"/", "/**", "/*", "/a", "/a/**", "/*/a", "/*/**", "/ab", "/b/a", "/a/b", "/**", "/"} {
		l = append(l, impl.Rule{Deny: len(l)%2 == 0, Who: "*/*", Method: "get", Path: path})
	}
	for _, c := range []struct {
		word string
		want []int
	}{
		{"", []int{0, 1, 10, 11}},
		{"a", []int{1, 2, 3, 4, 5, 6, 9, 10}},
		{"ab", []int{1, 2, 5, 6, 7, 10}},
		{"b", []int{1, 2, 5, 6, 8, 10}},
		{"z", []int{1, 2, 5, 6, 10}},
		{"*", []int{1, 2, 5, 6, 10}},
		{"**", []int{1, 2, 5, 6, 10}},
		{"a/b", []int{1, 2, 5, 6, 10}},
		{"/a", []int{1, 2, 5, 6, 10}},
		{"/", []int{1, 2, 5, 6, 10}},
		{"A", []int{1, 2, 5, 6, 10}},
		{" \n\x00\xff", []int{1, 2, 5, 6, 10}},
	} {
		if got, ok := impl.IndexOf(l, c.word); !slices.Equal(got, c.want) || !ok {
			t.Errorf("IndexOf(%q) = %v, %v", c.word, got, ok)
		}
		if want := modelIndex(l, c.word); !slices.Equal(want, c.want) {
			t.Errorf("the model tells %v of %q", want, c.word)
		}
	}
}

func TestPlainPolicy(t *testing.T) {
	l := []impl.Rule{
		{Deny: true, Who: "a/b", Method: "get", Path: "/"},
		{Who: "b/a", Method: "put", Path: "/"},
		{Who: "a/b", Method: "put", Path: "/"},
		{Who: "a/b", Method: "*", Path: "/a"},
		{Deny: true, Who: "*/b", Method: "get", Path: "/"},
		{Who: "a/b", Method: "put", Path: "/"},
		{Who: "a/b", Method: "*", Path: "/"},
		{Deny: true, Who: "a/b", Method: "get", Path: "/"},
		{Who: "ab/b", Method: "get", Path: "/"},
		{Who: "a/b", Method: "put", Path: "/**"},
	}
	want := []impl.Rule{l[6], l[3], l[2], l[9], l[8], l[1], l[4], l[0]}
	if got, ok := impl.PlainPolicy(l); !slices.Equal(got, want) || !ok {
		t.Error(got, ok)
	}
	if got, ok := impl.PlainPolicy(want); !slices.Equal(got, want) || !ok {
		t.Error(got, ok)
	}
}

func TestNeverCounts(t *testing.T) {
	all := impl.Rule{Who: "*/*", Method: "*", Path: "/**"}
	denyAll := impl.Rule{Deny: true, Who: "*/*", Method: "*", Path: "/**"}
	one := impl.Rule{Who: "a/b", Method: "get", Path: "/a"}
	denyOne := impl.Rule{Deny: true, Who: "a/b", Method: "get", Path: "/a"}
	get := impl.Rule{Who: "*/*", Method: "get", Path: "/**"}
	for _, c := range []struct {
		l    []impl.Rule
		want []bool
	}{
		{[]impl.Rule{one}, []bool{false}},
		{[]impl.Rule{one, one}, []bool{false, true}},
		{[]impl.Rule{one, one, one}, []bool{false, true, true}},
		{[]impl.Rule{all, one}, []bool{false, true}},
		{[]impl.Rule{one, all}, []bool{true, false}},
		{[]impl.Rule{one, denyAll}, []bool{true, false}},
		{[]impl.Rule{denyOne, all}, []bool{false, false}},
		{[]impl.Rule{denyOne, denyAll}, []bool{true, false}},
		{[]impl.Rule{one, denyOne}, []bool{true, false}},
		{[]impl.Rule{denyOne, one}, []bool{false, true}},
		{[]impl.Rule{get, all}, []bool{true, false}},
		{[]impl.Rule{all, get}, []bool{false, true}},
		{[]impl.Rule{{Who: "*/*", Method: "put", Path: "/**"}, one}, []bool{false, false}},
		{[]impl.Rule{{Who: "*/b", Method: "*", Path: "/*"}, one}, []bool{false, true}},
		{[]impl.Rule{{Who: "b/*", Method: "*", Path: "/*"}, one}, []bool{false, false}},
		{[]impl.Rule{{Who: "*/*", Method: "*", Path: "/"}, all}, []bool{true, false}},
		{[]impl.Rule{{Who: "*/*", Method: "*", Path: "/"}, one}, []bool{false, false}},
	} {
		for k, want := range c.want {
			if got, ok := impl.NeverCounts(c.l, k); got != want || !ok {
				t.Errorf("NeverCounts(%v, %v) = %v, %v", c.l, k, got, ok)
			}
		}
		for _, k := range []int{-1, len(c.l), len(c.l) + 1, -1 << 63, 1<<63 - 1} {
			if got, ok := impl.NeverCounts(c.l, k); got || ok {
				t.Errorf("NeverCounts(%v, %v) = %v, %v", c.l, k, got, ok)
			}
		}
	}
}

func TestNeverCountsAllPairs(t *testing.T) {
	rules := rulesOf([]string{"*/*", "a/*", "a/b"}, []string{"get", "*"}, []string{"/", "/**", "/*", "/a", "/a/**"})
	calls := callsOf([]string{"a/b", "a/z", "z/z"}, pathsOf([]string{"a", "z"}, 2))
	speaks := map[impl.Rule][]bool{}
	for _, r := range rules {
		for _, c := range calls {
			speaks[r] = append(speaks[r], modelSpeaks(r, c))
		}
	}
	for _, a := range rules {
		for _, b := range rules {
			cover, _ := coverAndMeet(speaks[a], speaks[b])
			back, _ := coverAndMeet(speaks[b], speaks[a])
			l := []impl.Rule{a, b}
			want := []bool{a != b && back && (b.Deny || !a.Deny), cover && (a.Deny || !b.Deny)}
			for k := range l {
				if got, ok := impl.NeverCounts(l, k); got != want[k] || !ok {
					t.Fatalf("NeverCounts(%v, %v) = %v, %v", l, k, got, ok)
				}
			}
		}
	}
}
