package tests

import (
	"fmt"
	"math"
	"slices"
	"strings"
	"testing"

	"loop.example/g00167/impl"
)

func TestIssuerConstants(t *testing.T) {
	got := []int{impl.MaxWorks, impl.MaxSigned, impl.IssueOk, impl.IssueBad, impl.IssueTwice, impl.IssueNone, impl.IssueFull}
	if !slices.Equal(got, []int{20, 200, 0, 1, 2, 3, 4}) {
		t.Error(got)
	}
}

// somebody tells an issuer that is good, and has all that is asked for: works that are live and not, and what is revoked.
func somebody() impl.Issuer {
	return impl.Issuer{
		Works:   []impl.Work{workOf("p/a", true, 3), workOf("p/b", true, 0), workOf("p/c", false, 2)},
		Next:    7,
		Revoked: []int{2, 5},
		Signed:  []string{"", "p/a p/b 3 2 9;"},
	}
}

// checkIssuer asks all functions of one issuer; good is what the document says of it.
func checkIssuer(t *testing.T, s impl.Issuer, good bool) {
	t.Helper()
	if got := modelGoodIssuer(s); got != good {
		t.Errorf("the model tells %v of %s", got, short(s))
	}
	if got := impl.GoodIssuer(s); got != good {
		t.Errorf("GoodIssuer(%s) = %v", short(s), got)
	}
	l := []impl.Link{linkOf("p/z", "p/a", 1, 0, 50)}
	for _, name := range []string{"p/a", "p/b", "p/c", "p/d", "p/w00"} {
		same(t, "enrol "+name, askEnrol(s, name), modelEnrol(s, name))
		same(t, "issue to "+name, askIssue(s, name, "p/x", 5, 10), modelIssue(s, name, "p/x", 5, 10))
		same(t, "revoke "+name, askRevoke(s, name), modelRevoke(s, name))
		l[0].To = name
		same(t, "hop of "+name, askHop(s, l, "p/x", 5, 10), modelHop(s, l, "p/x", 5, 10))
		serial, there := modelSerial(s, name)
		if n, ok := impl.SerialsOf(s, name); n != serial || ok != there {
			t.Errorf("SerialsOf(%s, %q) = %v, %v", short(s), name, n, ok)
		}
	}
	if good {
		return
	}
	for _, got := range []issuerAnswer{askEnrol(s, "p/d"), askIssue(s, "p/a", "p/x", 5, 10), askHop(s, l, "p/x", 5, 10), askRevoke(s, "p/a")} {
		same(t, short(s), got, issuerAnswer{code: impl.IssueBad})
	}
	if n, ok := impl.SerialsOf(s, "p/a"); n != 0 || ok {
		t.Errorf("SerialsOf(%s) = %v, %v", short(s), n, ok)
	}
}

func TestNewIssuer(t *testing.T) {
	s := impl.NewIssuer()
	if !sameIssuer(s, impl.Issuer{Next: 1}) {
		t.Error(s)
	}
	checkIssuer(t, s, true)
	checkIssuer(t, impl.Issuer{}, false)
	checkIssuer(t, somebody(), true)
}

// Each answer is written out here, from the document's words alone.
func TestIssuerOrdinary(t *testing.T) {
	s := same(t, "enrol p/b", askEnrol(impl.NewIssuer(), "p/b"), issuerAnswer{s: impl.Issuer{
		Works: []impl.Work{workOf("p/b", true, 0)}, Next: 1}}).s
	s = same(t, "enrol p/a", askEnrol(s, "p/a"), issuerAnswer{s: impl.Issuer{
		Works: []impl.Work{workOf("p/a", true, 0), workOf("p/b", true, 0)}, Next: 1}}).s
	first := []impl.Link{linkOf("p/a", "p/b", 1, 5, 15)}
	got := same(t, "issue", askIssue(s, "p/a", "p/b", 5, 10), issuerAnswer{l: first, s: impl.Issuer{
		Works: []impl.Work{workOf("p/a", true, 1), workOf("p/b", true, 0)}, Next: 2,
		Signed: []string{"p/a p/b 1 5 15;"}}})
	longer := append(slices.Clone(first), linkOf("p/b", "q/c", 2, 6, 9))
	got = same(t, "hop", askHop(got.s, got.l, "q/c", 6, 3), issuerAnswer{l: longer, s: impl.Issuer{
		Works: []impl.Work{workOf("p/a", true, 1), workOf("p/b", true, 2)}, Next: 3,
		Signed: []string{"p/a p/b 1 5 15;", "p/a p/b 1 5 15;p/b q/c 2 6 9;"}}})
	signed := got.s.Signed
	s = same(t, "revoke p/b", askRevoke(got.s, "p/b"), issuerAnswer{n: 1, s: impl.Issuer{
		Works: []impl.Work{workOf("p/a", true, 1), workOf("p/b", false, 2)}, Next: 3,
		Revoked: []int{2}, Signed: signed}}).s
	s = same(t, "revoke p/a", askRevoke(s, "p/a"), issuerAnswer{n: 2, s: impl.Issuer{
		Works: []impl.Work{workOf("p/a", false, 1), workOf("p/b", false, 2)}, Next: 3,
		Revoked: []int{1, 2}, Signed: signed}}).s
	for name, serial := range map[string]int{"p/a": 1, "p/b": 2} {
		if n, ok := impl.SerialsOf(s, name); n != serial || !ok {
			t.Error(name, n, ok)
		}
	}
	same(t, "issue of a revoked one", askIssue(s, "p/a", "p/b", 5, 10), issuerAnswer{s: s, code: impl.IssueNone})
	same(t, "hop of a revoked one", askHop(s, first, "q/c", 5, 10), issuerAnswer{s: s, code: impl.IssueNone})
	same(t, "revoke again", askRevoke(s, "p/a"), issuerAnswer{s: s, n: 2, code: impl.IssueNone})
	same(t, "enrol again", askEnrol(s, "p/a"), issuerAnswer{s: impl.Issuer{
		Works: []impl.Work{workOf("p/a", true, 0), workOf("p/b", false, 2)}, Next: 3,
		Revoked: []int{1, 2}, Signed: signed}})
}

func TestIssuerNext(t *testing.T) {
	for _, n := range []int{1, 2, 99998, 99999, 100000} {
		checkIssuer(t, impl.Issuer{Works: []impl.Work{workOf("p/a", true, 0)}, Next: n}, true)
	}
	for _, n := range []int{math.MinInt, -1, 0, 100001, 100002, math.MaxInt} {
		checkIssuer(t, impl.Issuer{Works: []impl.Work{workOf("p/a", true, 0)}, Next: n}, false)
		checkIssuer(t, impl.Issuer{Next: n}, false)
	}
	s := impl.Issuer{Works: []impl.Work{workOf("p/a", true, 0)}, Next: 99999}
	got := askIssue(s, "p/a", "p/b", 0, 0)
	if got.code != impl.IssueOk || got.l[0].Serial != 99999 || got.s.Next != 100000 {
		t.Fatal(got)
	}
	s = got.s
	if !impl.GoodIssuer(s) {
		t.Error(s)
	}
	same(t, "issue", askIssue(s, "p/a", "p/b", 0, 0), issuerAnswer{s: s, code: impl.IssueFull})
	same(t, "hop", askHop(s, []impl.Link{linkOf("p/b", "p/a", 1, 0, 9)}, "p/b", 0, 0), issuerAnswer{s: s, code: impl.IssueFull})
	if got := askRevoke(s, "p/a"); got.code != impl.IssueOk || !slices.Equal(got.s.Revoked, []int{99999}) {
		t.Error(got)
	}
}

func TestIssuerSerials(t *testing.T) {
	for _, next := range []int{1, 2, 7, 100000} {
		for serial, good := range map[int]bool{math.MinInt: false, -1: false, 0: true, next - 1: true, next: false, next + 1: false, math.MaxInt: false} {
			for _, live := range []bool{true, false} {
				checkIssuer(t, impl.Issuer{Works: []impl.Work{workOf("p/a", live, serial)}, Next: next}, good)
				checkIssuer(t, impl.Issuer{Works: []impl.Work{workOf("o/a", true, 0), workOf("p/a", live, serial)}, Next: next}, good)
			}
		}
		for n, good := range map[int]bool{math.MinInt: false, -1: false, 0: false, 1: next > 1, next - 1: next > 1, next: false, next + 1: false, math.MaxInt: false} {
			checkIssuer(t, impl.Issuer{Works: []impl.Work{workOf("p/a", true, 0)}, Next: next, Revoked: []int{n}}, good)
		}
	}
}

func TestIssuerRises(t *testing.T) {
	works := func(names ...string) impl.Issuer {
		s := impl.Issuer{Next: 9}
		for i, name := range names {
			s.Works = append(s.Works, workOf(name, i%2 == 0, i))
		}
		return s
	}
	for text, good := range map[string]bool{
		"p/a": true, "p/a p/b": true, "p/a p/a": false, "p/b p/a": false, "p/a p/b p/c": true, "p/a p/c p/b": false, "p/a p/b p/b": false, "p/b p/b p/c": false,
		"a/z b/a": true, "b/a a/z": false, "p/a p/aa": true, "p/aa p/a": false, "p/9 p/a": true, "p/a p/9": false, "a/b a0/b": true, "a0/b a/b": false,
		"p/ab p/b": true, "p": false, "p/a P/b": false, "p/a p/b/c": false, "p/a p/*": false,
	} {
		checkIssuer(t, works(strings.Fields(text)...), good)
	}
	for _, name := range append([]string{"p/a ", "p/a\n", "*/*"}, nearTexts...) {
		checkIssuer(t, works(name), nameForm.MatchString(name))
	}
	numbers := func(l ...int) impl.Issuer { return impl.Issuer{Next: 20, Revoked: l} }
	checkIssuer(t, numbers(1, 2, 19), true)
	checkIssuer(t, numbers(9, 10), true)
	checkIssuer(t, numbers(1, 1), false)
	checkIssuer(t, numbers(2, 1), false)
	checkIssuer(t, numbers(1, 3, 3), false)
	checkIssuer(t, numbers(1, 3, 2), false)
	checkIssuer(t, numbers(3, 1, 4), false)
	checkIssuer(t, numbers(10, 9), false)
	checkIssuer(t, numbers(0, 1), false)
	checkIssuer(t, numbers(19, 20), false)
}

func TestMaxWorks(t *testing.T) {
	for n, good := range map[int]bool{0: true, 1: true, 19: true, 20: true, 21: false, 100: false} {
		checkIssuer(t, impl.Issuer{Works: crowd(n), Next: 1}, good)
	}
	s := impl.NewIssuer()
	for i := range 20 {
		got := askEnrol(s, fmt.Sprintf("p/w%02d", (i*7)%20))
		if got.code != impl.IssueOk || len(got.s.Works) != i+1 {
			t.Fatal(i, got)
		}
		s = got.s
	}
	if !slices.Equal(s.Works, crowd(20)) {
		t.Error(s.Works)
	}
	same(t, "one more", askEnrol(s, "p/x"), issuerAnswer{s: s, code: impl.IssueFull})
	same(t, "one ahead", askEnrol(s, "a/x"), issuerAnswer{s: s, code: impl.IssueFull})
	same(t, "twice", askEnrol(s, "p/w07"), issuerAnswer{s: s, code: impl.IssueTwice})
	s = askRevoke(s, "p/w07").s
	same(t, "one more", askEnrol(s, "p/x"), issuerAnswer{s: s, code: impl.IssueFull})
	same(t, "again", askEnrol(s, "p/w07"), issuerAnswer{s: impl.Issuer{Works: crowd(20), Next: 1}})
}

func TestMaxSigned(t *testing.T) {
	odd := append([]string{"\x00", "\xff\xfe", "p/a p/b 1 0 0;", "no token"}, nearTexts...)
	for n, good := range map[int]bool{0: true, 1: true, 199: true, 200: true, 201: false, 1000: false} {
		s := impl.Issuer{Works: []impl.Work{workOf("p/a", true, 0)}, Next: 3}
		for i := range n {
			s.Signed = append(s.Signed, odd[i%len(odd)])
		}
		checkIssuer(t, s, good)
	}
	s := impl.Issuer{Works: []impl.Work{workOf("p/a", true, 0)}, Next: 1}
	for i := range 200 {
		got := askIssue(s, "p/a", "p/b", i, 1)
		if got.code != impl.IssueOk || len(got.s.Signed) != i+1 || got.s.Signed[i] != fmt.Sprintf("p/a p/b %d %d %d;", i+1, i, i+1) {
			t.Fatal(i, short(got))
		}
		s = got.s
	}
	same(t, "issue", askIssue(s, "p/a", "p/b", 0, 0), issuerAnswer{s: s, code: impl.IssueFull})
	same(t, "hop", askHop(s, []impl.Link{linkOf("p/b", "p/a", 1, 0, 9)}, "p/b", 0, 0), issuerAnswer{s: s, code: impl.IssueFull})
	if got := askRevoke(s, "p/a"); got.code != impl.IssueOk || !slices.Equal(got.s.Revoked, []int{200}) || len(got.s.Signed) != 200 {
		t.Error(short(got))
	}
}

// What is revoked has no greatest count of its own: an issuer with many is good.
func TestManyRevoked(t *testing.T) {
	s := impl.Issuer{Works: []impl.Work{workOf("p/a", true, 99999)}, Next: 100000}
	for n := 1; n < 99999; n++ {
		s.Revoked = append(s.Revoked, n)
	}
	checkIssuer(t, s, true)
	if got := askRevoke(s, "p/a"); got.n != 99999 || got.s.Revoked[99998] != 99999 || got.code != impl.IssueOk {
		t.Error(short(got))
	}
}

func TestIssuedTimes(t *testing.T) {
	s := somebody()
	numbers := []int{math.MinInt, -100000, -1, 0, 1, 50, 99999, 100000, 100001, 200000, math.MaxInt}
	for _, now := range numbers {
		for _, life := range numbers {
			got := same(t, "issue", askIssue(s, "p/a", "p/b", now, life), modelIssue(s, "p/a", "p/b", now, life))
			good := now >= 0 && now <= 100000 && life >= 0 && life <= 100000
			if (got.code == impl.IssueOk) != good || (got.code == impl.IssueBad) == good {
				t.Error(now, life, got.code)
			}
			if good && (got.l[0].From != now || got.l[0].Until != min(now+life, 100000)) {
				t.Error(now, life, got.l)
			}
			for _, until := range []int{0, 1, 49, 50, 51, 99999, 100000} {
				l := []impl.Link{linkOf("p/z", "p/a", 1, 0, until)}
				got := same(t, "hop", askHop(s, l, "p/c", now, life), modelHop(s, l, "p/c", now, life))
				want := impl.IssueOk
				if !good {
					want = impl.IssueBad
				} else if now > until {
					want = impl.IssueFull
				}
				if got.code != want {
					t.Error(now, life, until, got.code)
				}
				if want == impl.IssueOk && got.l[1] != linkOf("p/a", "p/c", 7, now, min(now+life, until)) {
					t.Error(now, life, until, got.l)
				}
			}
		}
	}
}

func TestHopAtMaxLinks(t *testing.T) {
	s := impl.Issuer{Next: 50}
	for i := range 8 {
		s.Works = append(s.Works, workOf(fmt.Sprintf("p/w%d", i), true, 0))
	}
	for n := 1; n <= 7; n++ {
		l := chainOf(n)
		got := same(t, "hop", askHop(s, l, "q/q", 50, 1), modelHop(s, l, "q/q", 50, 1))
		want := map[bool]int{true: impl.IssueOk, false: impl.IssueFull}[n < 6]
		if n > 6 {
			want = impl.IssueBad
		}
		if got.code != want {
			t.Errorf("%v links: %v", n, got.code)
		}
	}
	got := askHop(s, chainOf(5), "q/q", 50, 1)
	if len(got.l) != 6 || got.l[5] != linkOf("p/w5", "q/q", 50, 50, 51) || got.s.Signed[0] != modelTokenText(got.l) || got.s.Works[5].Serial != 50 {
		t.Error(got)
	}
	s.Works[6].Live = false
	same(t, "none ahead of full", askHop(s, chainOf(6), "q/q", 50, 1), issuerAnswer{s: s, code: impl.IssueNone})
	same(t, "bad ahead of none", askHop(s, chainOf(6), "q", 50, 1), issuerAnswer{code: impl.IssueBad})
}

// What is handed in need not be signed, in time or free of what was taken back: a hop asks for a good token and a live work.
func TestHopOfAnyToken(t *testing.T) {
	s := somebody()
	for _, l := range [][]impl.Link{
		{linkOf("q/q", "p/a", 99, 0, 100000)},
		{linkOf("p/a", "p/a", 5, 0, 60)},
		{linkOf("p/c", "p/a", 7, 60, 60)},
		{linkOf("p/a", "p/b", 7, 7, 7), linkOf("p/b", "p/a", 7, 8, 99)},
	} {
		got := same(t, "hop", askHop(s, l, "p/a", 50, 5), modelHop(s, l, "p/a", 50, 5))
		if got.code != impl.IssueOk || got.s.Works[0] != workOf("p/a", true, 7) || len(got.s.Signed) != 3 {
			t.Error(l, got)
		}
	}
}

func TestEnrolAgain(t *testing.T) {
	s := somebody()
	got := askEnrol(s, "p/c")
	if got.code != impl.IssueOk || got.s.Works[2] != workOf("p/c", true, 0) || len(got.s.Works) != 3 || !slices.Equal(got.s.Revoked, []int{2, 5}) || got.s.Next != 7 {
		t.Error(got)
	}
	if n, ok := impl.SerialsOf(got.s, "p/c"); n != 0 || !ok {
		t.Error(n, ok)
	}
	got = same(t, "revoke with no serial", askRevoke(got.s, "p/c"), issuerAnswer{n: 2, s: impl.Issuer{
		Works: []impl.Work{workOf("p/a", true, 3), workOf("p/b", true, 0), workOf("p/c", false, 0)}, Next: 7,
		Revoked: []int{2, 5}, Signed: s.Signed}})
	same(t, "twice", askEnrol(s, "p/a"), issuerAnswer{s: s, code: impl.IssueTwice})
}

func TestRevokedCounts(t *testing.T) {
	with := func(serial int, revoked ...int) impl.Issuer {
		return impl.Issuer{Works: []impl.Work{workOf("p/a", true, serial), workOf("p/b", false, 1)}, Next: 9, Revoked: revoked}
	}
	for _, c := range []struct {
		s    impl.Issuer
		want []int
	}{
		{with(0), nil},
		{with(0, 4, 6), []int{4, 6}},
		{with(3), []int{3}},
		{with(3, 4, 6), []int{3, 4, 6}},
		{with(5, 4, 6), []int{4, 5, 6}},
		{with(8, 4, 6), []int{4, 6, 8}},
		{with(4, 4, 6), []int{4, 6}},
		{with(6, 4, 6), []int{4, 6}},
	} {
		got := same(t, "revoke", askRevoke(c.s, "p/a"), modelRevoke(c.s, "p/a"))
		if got.n != len(c.want) || got.code != impl.IssueOk || !slices.Equal(got.s.Revoked, c.want) || got.s.Works[0] != workOf("p/a", false, c.s.Works[0].Serial) {
			t.Errorf("%v: %v, asked: %v", c.s, got, c.want)
		}
		for _, name := range []string{"p/b", "p/c"} {
			same(t, "revoke "+name, askRevoke(c.s, name), issuerAnswer{s: c.s, n: len(c.s.Revoked), code: impl.IssueNone})
		}
		for _, name := range []string{"p", "", "p/*", "P/a"} {
			same(t, "revoke "+name, askRevoke(c.s, name), issuerAnswer{code: impl.IssueBad})
		}
	}
}

// All sets of faults at once: the first in the document's order is told, and the issuer that stands beside it.
func TestIssueCodesInOrder(t *testing.T) {
	for set := range 1 << 10 {
		on := func(i int) bool { return set>>i&1 == 1 }
		s := impl.Issuer{Works: append([]impl.Work{workOf("a/a", true, 0)}, crowd(2)...), Next: 7, Signed: make([]string, 3)}
		l, name, to, now, life := []impl.Link{linkOf("q/q", "a/a", 1, 0, 80)}, "a/a", "q/r", 50, 5
		if on(0) {
			s.Works[0].Live = false
		}
		if on(1) {
			name, l[0].To = "b/b", "b/b"
		}
		if on(2) {
			s.Next = 100000
		}
		if on(3) {
			s.Signed = make([]string, 200)
		}
		if on(4) {
			now = 81
		}
		goodSet := !on(5) && !on(6) && !on(7) && !on(8)
		if on(5) {
			s.Works[1].Name = "p/w01"
		}
		if on(6) {
			to = "q"
		}
		if on(7) {
			now = -1
		}
		if on(8) {
			life = 100001
		}
		issued := issuerAnswer{s: s, code: impl.IssueOk}
		switch {
		case !goodSet:
			issued = issuerAnswer{code: impl.IssueBad}
		case on(0) || on(1):
			issued.code = impl.IssueNone
		case on(2) || on(3):
			issued.code = impl.IssueFull
		}
		hopped := issued
		if issued.code == impl.IssueOk && on(4) {
			hopped.code = impl.IssueFull
		}
		if on(9) {
			l[0].Until, hopped = -1, issuerAnswer{code: impl.IssueBad}
		}
		if got := askIssue(s, name, to, now, life); issued.code != impl.IssueOk {
			same(t, "issue", got, issued)
		} else if got.code != impl.IssueOk || len(got.l) != 1 {
			t.Error(set, got)
		}
		if got := askHop(s, l, to, now, life); hopped.code != impl.IssueOk {
			same(t, "hop", got, hopped)
		} else if got.code != impl.IssueOk || len(got.l) != 2 {
			t.Error(set, got)
		}
	}
}

func TestIssuerWrongInputs(t *testing.T) {
	bad, l := issuerAnswer{code: impl.IssueBad}, []impl.Link{linkOf("p/z", "p/a", 1, 0, 50)}
	for _, name := range append([]string{"p/a p/b", "p/a;", "*/a", "p/a\n"}, nearTexts...) {
		if nameForm.MatchString(name) {
			continue
		}
		s := somebody()
		same(t, "enrol", askEnrol(s, name), bad)
		same(t, "issue of", askIssue(s, name, "p/b", 5, 5), bad)
		same(t, "issue to", askIssue(s, "p/a", name, 5, 5), bad)
		same(t, "issue to, of one that is not there", askIssue(s, "p/d", name, 5, 5), bad)
		same(t, "hop", askHop(s, l, name, 5, 5), bad)
		same(t, "hop of", askHop(s, []impl.Link{linkOf("p/z", name, 1, 0, 50)}, "p/b", 5, 5), bad)
		same(t, "revoke", askRevoke(s, name), bad)
		if n, ok := impl.SerialsOf(s, name); n != 0 || ok {
			t.Errorf("SerialsOf(%.60q) = %v, %v", name, n, ok)
		}
	}
	for _, l := range [][]impl.Link{nil, {}, chainOf(7), {linkOf("p/z", "p/a", 0, 0, 50)}, {linkOf("p/z", "p/a", 1, 51, 50)}, {linkOf("p/z", "p/b", 1, 0, 50), linkOf("p/z", "p/a", 1, 0, 50)}} {
		same(t, "hop", askHop(somebody(), l, "p/b", 5, 5), bad)
	}
}
