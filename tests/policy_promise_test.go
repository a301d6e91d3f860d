package tests

import (
	"math/rand/v2"
	"slices"
	"strings"
	"testing"

	"loop.example/g00167/impl"
)

// The second promise in its own words, on the program's answers.

func TestWhatNeverCountsMayGo(t *testing.T) {
	rnd := rand.New(rand.NewPCG(2, 2))
	rules, calls := smallRules(), smallCalls()
	gone := 0
	for round := range 300 {
		l := policyOf(rnd, rules, 1+round%8)
		for k := range l {
			if never, _ := impl.NeverCounts(l, k); !never {
				continue
			}
			gone++
			less := slices.Delete(slices.Clone(l), k, k+1)
			for _, c := range calls {
				with, _, _ := impl.DecideCall(l, c)
				without, _, _ := impl.DecideCall(less, c)
				if with != without {
					t.Fatalf("%v without %v: %v is %v, was %v", l, k, c, without, with)
				}
			}
		}
	}
	if gone < 100 {
		t.Errorf("only %v rules went", gone)
	}
}

func TestAllThatNeverCountMayGoOneByOne(t *testing.T) {
	rnd := rand.New(rand.NewPCG(2, 3))
	rules, calls := smallRules(), smallCalls()
	for range 60 {
		l := policyOf(rnd, rules, 12)
		less := slices.Clone(l)
		for k := 0; k < len(less); {
			if never, _ := impl.NeverCounts(less, k); never {
				less = slices.Delete(less, k, k+1)
				k = 0
				continue
			}
			k++
		}
		for _, c := range calls {
			with, _, _ := impl.DecideCall(l, c)
			without, _, _ := impl.DecideCall(less, c)
			if with != without {
				t.Fatalf("%v became %v: %v is %v, was %v", l, less, c, without, with)
			}
		}
	}
}

func TestNeverCountsAsTheCallsSay(t *testing.T) {
	rnd := rand.New(rand.NewPCG(2, 4))
	rules := smallRules()
	calls := callsOf([]string{"a/b", "a/z", "z/b", "z/z"}, pathsOf([]string{"a", "b", "z"}, 2))
	for range 40 {
		l := policyOf(rnd, rules, 4)
		for k := range l {
			if got, ok := impl.NeverCounts(l, k); got != modelNever(l, k, calls) || !ok {
				t.Fatalf("NeverCounts(%v, %v) = %v, %v", l, k, got, ok)
			}
		}
	}
}

func TestIndexAndPlainPolicyDecideAlike(t *testing.T) {
	rnd := rand.New(rand.NewPCG(2, 5))
	rules, calls := smallRules(), smallCalls()
	for round := range 200 {
		l := policyOf(rnd, rules, round%31)
		plain, ok := impl.PlainPolicy(l)
		if !ok || !slices.Equal(plain, modelPlain(l)) {
			t.Fatalf("PlainPolicy(%v) = %v, %v", l, plain, ok)
		}
		for range 50 {
			c := calls[rnd.IntN(len(calls))]
			a, k, _ := impl.DecideCall(l, c)
			b, i, ok := impl.DecideByIndex(l, c)
			p, _, plainOk := impl.DecideCall(plain, c)
			if a != b || k != i || a != p || !ok || !plainOk {
				t.Fatalf("%v of %v: %v %v, by index %v %v, plain %v", l, c, a, k, b, i, p)
			}
		}
	}
}

func TestPoliciesComeBack(t *testing.T) {
	rnd := rand.New(rand.NewPCG(2, 6))
	rules := append(smallRules(), rulesOf([]string{"a1b2c3d4/z9y8x7w6", "0/9"}, []string{"put"}, []string{"/a/b/c/d/e/**", "/a1b2c3d4/b/c"})...)
	for round := range 300 {
		l := policyOf(rnd, rules, round%31)
		s, ok := impl.PolicyText(l)
		if !ok {
			if len(s) != 0 {
				t.Fatal(s)
			}
			continue
		}
		back, line, code := impl.ReadPolicy(s)
		if !slices.Equal(back, l) || line != 0 || code != impl.PolicyOk {
			t.Fatalf("%q: %v, %v, %v", s, back, line, code)
		}
	}
}

// The tenth promise for this chapter: any arguments, none changed, none shared.

func oddRules() []impl.Rule {
	var all []impl.Rule
	for _, s := range append(nearTexts, "get", "a/b get /", "a/b get /\nallow a/b") {
		all = append(all, impl.Rule{Who: s, Method: "get", Path: "/"}, impl.Rule{Who: "a/b", Method: s, Path: "/"}, impl.Rule{Deny: true, Who: "a/b", Method: "*", Path: s}, impl.Rule{Who: s, Method: s, Path: s})
	}
	return all
}

func oddCalls() []impl.Call {
	calls := []impl.Call{{}, {Who: "a/b", Method: "get", Path: "/"}, {Who: "a/b", Method: "*", Path: "/"}}
	for _, s := range nearTexts {
		calls = append(calls, impl.Call{Who: s, Method: "put", Path: "/a"}, impl.Call{Who: "a/b", Method: s, Path: "/a"}, impl.Call{Who: "a/b", Method: "get", Path: s})
	}
	return calls
}

// checkPolicy asks every function that takes a policy, and holds each answer against the model's or the zero answer.
func checkPolicy(t *testing.T, rules []impl.Rule, c impl.Call, word string, k int) {
	behind := impl.Rule{Deny: true, Who: "*/*", Method: "*", Path: "/**"}
	l, whole := spare(rules, behind, behind)
	before := slices.Clone(whole)
	good := modelGoodPolicy(rules)
	s, ok := impl.PolicyText(l)
	var text strings.Builder
	for _, r := range rules {
		text.WriteString(modelText(r) + "\n")
	}
	fits := good && text.Len() <= 1500
	if ok != fits || fits && s != text.String() || !fits && s != "" {
		t.Errorf("PolicyText(%s) = %q, %v", short(rules), s, ok)
	}
	plain, ok := impl.PlainPolicy(l)
	if ok != good || good && !slices.Equal(plain, modelPlain(rules)) || !good && len(plain) != 0 {
		t.Errorf("PlainPolicy(%s) = %v, %v", short(rules), plain, ok)
	}
	clear(plain[:cap(plain)])
	index, ok := impl.IndexOf(l, word)
	if ok != good || good && !slices.Equal(index, modelIndex(rules, word)) || !good && len(index) != 0 {
		t.Errorf("IndexOf(%s, %.60q) = %v, %v", short(rules), word, index, ok)
	}
	decision, rule, both := 0, 0, good && modelGoodCall(c)
	if both {
		decision, rule = modelDecide(rules, c)
	}
	if a, k, ok := impl.DecideCall(l, c); a != decision || k != rule || ok != both {
		t.Errorf("DecideCall(%s, %.60q) = %v, %v, %v", short(rules), c, a, k, ok)
	}
	if a, k, ok := impl.DecideByIndex(l, c); a != decision || k != rule || ok != both {
		t.Errorf("DecideByIndex(%s, %.60q) = %v, %v, %v", short(rules), c, a, k, ok)
	}
	there := good && k >= 0 && k < len(rules)
	if never, ok := impl.NeverCounts(l, k); ok != there || never && !there {
		t.Errorf("NeverCounts(%s, %v) = %v, %v", short(rules), k, never, ok)
	}
	if !slices.Equal(whole, before) {
		t.Errorf("%s was changed: %s", short(before), short(whole))
	}
}

func TestAnyPolicy(t *testing.T) {
	rnd := rand.New(rand.NewPCG(2, 7))
	odd, good, calls := oddRules(), smallRules(), oddCalls()
	words := append(nearTexts, "a", "b", "get")
	for round := range 3000 {
		l := policyOf(rnd, good, rnd.IntN(33))
		if round%2 == 0 && len(l) > 0 {
			l[rnd.IntN(len(l))] = odd[rnd.IntN(len(odd))]
		}
		checkPolicy(t, l, calls[rnd.IntN(len(calls))], words[rnd.IntN(len(words))], rnd.IntN(36)-2)
	}
	for _, r := range odd {
		checkPolicy(t, []impl.Rule{r}, calls[1], "a", 0)
	}
	for _, c := range calls {
		checkPolicy(t, ordinary, c, c.Path, 1)
	}
	checkPolicy(t, make([]impl.Rule, 100000), calls[1], "", 99999)
}

func TestAnyText(t *testing.T) {
	texts := append(slices.Clone(nearTexts), textsOf("/ a*\n", 5)...)
	for _, s := range append(texts, strings.Repeat("allow a/b get /\n", 10000)) {
		l, line, code := impl.ReadPolicy(s)
		if code == impl.PolicyOk {
			if back, ok := impl.PolicyText(l); !ok || back != s || line != 0 {
				t.Errorf("ReadPolicy(%.60q) = %v, %v, %v", s, l, line, code)
			}
		} else if len(l) != 0 || (line == 0) != (code == impl.PolicyLong) {
			t.Errorf("ReadPolicy(%.60q) = %v, %v, %v", s, l, line, code)
		}
	}
}

func FuzzReadPolicy(f *testing.F) {
	f.Add(ordinaryText)
	f.Add("")
	f.Add("allow a/b get /\nx")
	f.Fuzz(func(t *testing.T, s string) {
		l, line, code := impl.ReadPolicy(s)
		back, ok := impl.PolicyText(l)
		if code == impl.PolicyOk && (!ok || back != s || line != 0) || code != impl.PolicyOk && len(l) != 0 {
			t.Errorf("ReadPolicy(%q) = %v, %v, %v", s, l, line, code)
		}
	})
}
