package tests

import (
	"math"
	"slices"
	"testing"

	"loop.example/g00167/impl"
)

func TestStoreConstants(t *testing.T) {
	if impl.MaxKept != 20 {
		t.Error(impl.MaxKept)
	}
}

// checkSnapshot asks all functions of one snapshot; good is what the document says of it.
func checkSnapshot(t *testing.T, s impl.Snapshot, good bool) {
	t.Helper()
	if got := modelGoodSnapshot(s); got != good {
		t.Errorf("the model tells %v of %s", got, short(s))
	}
	if got := impl.GoodSnapshot(s); got != good {
		t.Errorf("GoodSnapshot(%s) = %v", short(s), got)
	}
	l := []impl.Snapshot{s}
	if got, ok := impl.SnapshotAt(l, s.Number); ok != good || good && !sameSnapshot(got, s) || !good && !sameSnapshot(got, impl.Snapshot{}) {
		t.Errorf("SnapshotAt(%s) = %s, %v", short(s), short(got), ok)
	}
	if got, ok := impl.CompactTo(l, s.Number); ok != good || good && !sameVersions(got, l) || !good && len(got) != 0 {
		t.Errorf("CompactTo(%s) = %s, %v", short(s), short(got), ok)
	}
	want, fits := modelPut(l, ordinary, []int{9})
	if got, ok := impl.PutSnapshot(l, ordinary, []int{9}); ok != fits || !sameVersions(got, want) {
		t.Errorf("PutSnapshot(%s) = %s, %v", short(s), short(got), ok)
	}
	none := impl.Snapshot{Number: 1}
	later := impl.Snapshot{Number: 100000, Revoked: []int{1}}
	checkDiffOf(t, none, s)
	checkDiffOf(t, s, none)
	checkDiffOf(t, s, later)
	checkDiffOf(t, later, s)
	checkApply(t, s, impl.Diff{From: s.Number, To: 100000})
	checkApply(t, s, impl.Diff{From: s.Number, To: 100000, Drop: s.Policy})
	if good {
		return
	}
	checkVersions(t, append(versionsFrom(s.Number-1, 1), s), false)
	checkVersions(t, append(l, versionsFrom(s.Number+1, 1)...), false)
	if d, ok := impl.DiffOf(none, s); ok || !sameDiff(d, impl.Diff{}) {
		t.Errorf("DiffOf to %s = %s, %v", short(s), short(d), ok)
	}
	if d, ok := impl.DiffOf(s, later); ok || !sameDiff(d, impl.Diff{}) {
		t.Errorf("DiffOf from %s = %s, %v", short(s), short(d), ok)
	}
}

// checkVersions asks all functions of one list; good is what the document says of it.
func checkVersions(t *testing.T, l []impl.Snapshot, good bool) {
	t.Helper()
	if got := modelGoodVersions(l); got != good {
		t.Errorf("the model tells %v of %s", got, short(l))
	}
	got, ok := impl.PutSnapshot(l, ordinary, []int{3, 1})
	want, fits := modelPut(l, ordinary, []int{3, 1})
	if ok != fits || ok && !good || !sameVersions(got, want) {
		t.Errorf("PutSnapshot(%s) = %s, %v", short(l), short(got), ok)
	}
	numbers := []int{math.MinInt, -1, 0, 1, 100000, 100001, math.MaxInt}
	for _, s := range l[:min(len(l), 25)] {
		numbers = append(numbers, s.Number-1, s.Number, s.Number+1)
	}
	for _, n := range numbers {
		from, there := modelFrom(l, n)
		if got, ok := impl.CompactTo(l, n); ok != there || ok && !good || !sameVersions(got, from) {
			t.Errorf("CompactTo(%s, %v) = %s, %v", short(l), n, short(got), ok)
		}
		one, _ := modelAt(l, n)
		if got, ok := impl.SnapshotAt(l, n); ok != there || ok && !good || !sameSnapshot(got, one) {
			t.Errorf("SnapshotAt(%s, %v) = %s, %v", short(l), n, short(got), ok)
		}
	}
}

// checkDiffOf holds a difference against the model's, and what it makes of the earlier one against the later one.
func checkDiffOf(t *testing.T, a, b impl.Snapshot) {
	t.Helper()
	got, ok := impl.DiffOf(a, b)
	want, is := modelDiff(a, b)
	if ok != is || !sameDiff(got, want) {
		t.Errorf("DiffOf(%s, %s) = %s, %v; asked: %s, %v", short(a), short(b), short(got), ok, short(want), is)
	}
	if !ok {
		return
	}
	if back, ok := impl.ApplyDiff(a, got); !ok || !sameSnapshot(back, b) {
		t.Errorf("ApplyDiff(%s, %s) = %s, %v; asked: %s", short(a), short(got), short(back), ok, short(b))
	}
}

func checkApply(t *testing.T, s impl.Snapshot, d impl.Diff) bool {
	t.Helper()
	got, ok := impl.ApplyDiff(s, d)
	want, is := modelApply(s, d)
	if ok != is || !sameSnapshot(got, want) {
		t.Errorf("ApplyDiff(%s, %s) = %s, %v; asked: %s, %v", short(s), short(d), short(got), ok, short(want), is)
	}
	return ok
}

// Each answer is written out here, from the document's words alone.
func TestStoreOrdinary(t *testing.T) {
	allow := impl.Rule{Who: "a/b", Method: "get", Path: "/"}
	other := impl.Rule{Who: "a/c", Method: "*", Path: "/**"}
	deny := impl.Rule{Deny: true, Who: "a/b", Method: "put", Path: "/x"}
	one := snapshotOf(1, []impl.Rule{allow, deny}, 1, 3)
	two := snapshotOf(2, []impl.Rule{other, deny}, 1, 2, 3, 9)
	l, ok := impl.PutSnapshot(nil, []impl.Rule{deny, allow, deny}, []int{3, 1, 3})
	if !ok || !sameVersions(l, []impl.Snapshot{one}) {
		t.Fatal(l, ok)
	}
	l, ok = impl.PutSnapshot(l, []impl.Rule{deny, other}, []int{9, 3, 2, 1})
	if !ok || !sameVersions(l, []impl.Snapshot{one, two}) {
		t.Fatal(l, ok)
	}
	d, ok := impl.DiffOf(l[0], l[1])
	want := impl.Diff{From: 1, To: 2, Drop: []impl.Rule{allow}, Add: []impl.Rule{other}, Revoked: []int{2, 9}}
	if !ok || !sameDiff(d, want) {
		t.Error(d, ok)
	}
	if s, ok := impl.ApplyDiff(one, want); !ok || !sameSnapshot(s, two) {
		t.Error(s, ok)
	}
	if s, ok := impl.SnapshotAt(l, 2); !ok || !sameSnapshot(s, two) {
		t.Error(s, ok)
	}
	if m, ok := impl.CompactTo(l, 2); !ok || !sameVersions(m, []impl.Snapshot{two}) {
		t.Error(m, ok)
	}
	if d, ok := impl.DiffOf(l[1], l[0]); ok || !sameDiff(d, impl.Diff{}) {
		t.Error(d, ok)
	}
}

func TestNoSnapshotYet(t *testing.T) {
	for _, l := range [][]impl.Snapshot{nil, {}} {
		checkVersions(t, l, true)
		got, ok := impl.PutSnapshot(l, nil, nil)
		if !ok || !sameVersions(got, []impl.Snapshot{{Number: 1}}) {
			t.Error(got, ok)
		}
		if s, ok := impl.SnapshotAt(l, 0); ok || !sameSnapshot(s, impl.Snapshot{}) {
			t.Error(s, ok)
		}
		if m, ok := impl.CompactTo(l, 0); ok || len(m) != 0 {
			t.Error(m, ok)
		}
	}
	checkSnapshot(t, impl.Snapshot{}, false)
	checkSnapshot(t, impl.Snapshot{Number: 1}, true)
	checkSnapshot(t, impl.Snapshot{Number: 1, Policy: []impl.Rule{}, Revoked: []int{}}, true)
}

func TestMaxKeptMet(t *testing.T) {
	for n, good := range map[int]bool{1: true, 2: true, 19: true, 20: true, 21: false, 22: false, 500: false} {
		checkVersions(t, versionsFrom(1, n), good)
		checkVersions(t, versionsFrom(7000, n), good)
	}
	var l []impl.Snapshot
	for n := 1; n <= 45; n++ {
		var ok bool
		l, ok = impl.PutSnapshot(l, rulesNumbered(n), []int{n})
		first := max(1, n-19)
		if !ok || len(l) != min(n, 20) {
			t.Fatal(n, short(l), ok)
		}
		for i, s := range l {
			if !sameSnapshot(s, snapshotOf(first+i, rulesNumbered(first+i), first+i)) {
				t.Errorf("behind %v: %v at %v", n, s, i)
			}
		}
	}
}

func TestSnapshotNumbers(t *testing.T) {
	for _, n := range []int{1, 2, 99999, 100000} {
		checkSnapshot(t, snapshotOf(n, modelPlain(ordinary), 1, 2), true)
	}
	for _, n := range []int{math.MinInt, -100000, -1, 0, 100001, 100002, math.MaxInt} {
		checkSnapshot(t, snapshotOf(n, modelPlain(ordinary), 1, 2), false)
		checkSnapshot(t, impl.Snapshot{Number: n}, false)
	}
}

// Behind 100000 there is no number: what is put there is none, and takes nothing away.
func TestBehindTheGreatestNumber(t *testing.T) {
	for n := 1; n <= 20; n++ {
		l := versionsFrom(100000-n, n)
		checkVersions(t, l, true)
		l, ok := impl.PutSnapshot(l, ordinary, nil)
		if !ok || l[len(l)-1].Number != 100000 {
			t.Fatal(n, short(l), ok)
		}
		checkVersions(t, l, true)
		if got, ok := impl.PutSnapshot(l, ordinary, nil); ok || len(got) != 0 {
			t.Error(n, short(got), ok)
		}
		checkVersions(t, versionsFrom(100001-n, n+1)[1:], false)
	}
}

func TestSnapshotPolicies(t *testing.T) {
	allow, deny := ruleNumbered(5), impl.Rule{Deny: true, Who: "a/a", Method: "get", Path: "/"}
	for _, c := range []struct {
		l    []impl.Rule
		good bool
	}{
		{nil, true},
		{[]impl.Rule{}, true},
		{rulesNumbered(5), true},
		{rulesNumbered(5, 6, 7), true},
		{rulesNumbered(6, 5), false},
		{rulesNumbered(5, 7, 6), false},
		{rulesNumbered(5, 5), false},
		{rulesNumbered(4, 5, 5), false},
		{rulesNumbered(5, 6, 5), false},
		{[]impl.Rule{allow, deny}, true},
		{[]impl.Rule{deny, allow}, false},
		{[]impl.Rule{deny}, true},
		{[]impl.Rule{deny, deny}, false},
		{[]impl.Rule{{}}, false},
		{[]impl.Rule{{Who: "a", Method: "get", Path: "/"}}, false},
		{[]impl.Rule{{Who: "a/b", Method: "post", Path: "/"}}, false},
		{[]impl.Rule{{Who: "a/b", Method: "get", Path: "x"}}, false},
		{[]impl.Rule{allow, {Who: "q/q", Method: "get", Path: ""}}, false},
		{rulesNumbered(upFrom(0, 29)...), true},
		{rulesNumbered(upFrom(0, 30)...), true},
		{rulesNumbered(upFrom(0, 31)...), false},
		{rulesNumbered(upFrom(0, 1000)...), false},
	} {
		checkSnapshot(t, snapshotOf(4, c.l, 1, 2), c.good)
	}
}

func TestSnapshotRevoked(t *testing.T) {
	for _, c := range []struct {
		l    []int
		good bool
	}{
		{nil, true},
		{[]int{}, true},
		{[]int{1}, true},
		{[]int{100000}, true},
		{[]int{1, 100000}, true},
		{[]int{0}, false},
		{[]int{0, 1}, false},
		{[]int{-1, 1}, false},
		{[]int{math.MinInt}, false},
		{[]int{100001}, false},
		{[]int{1, 100001}, false},
		{[]int{math.MaxInt}, false},
		{[]int{1, 2, 3}, true},
		{[]int{9, 10}, true},
		{[]int{1, 1}, false},
		{[]int{1, 2, 2}, false},
		{[]int{2, 1}, false},
		{[]int{1, 3, 2}, false},
		{[]int{1, 2, 1}, false},
		{[]int{10, 9}, false},
		{upFrom(1, 199), true},
		{upFrom(1, 200), true},
		{upFrom(99801, 200), true},
		{upFrom(99802, 200), false},
		{upFrom(1, 201), false},
		{upFrom(1, 100000), false},
	} {
		checkSnapshot(t, snapshotOf(4, modelPlain(ordinary), c.l...), c.good)
	}
}

func TestVersionsFollowEachOther(t *testing.T) {
	for _, c := range []struct {
		numbers []int
		good    bool
	}{
		{[]int{1, 2, 3}, true},
		{[]int{41, 42, 43}, true},
		{[]int{99999, 100000}, true},
		{[]int{1, 3}, false},
		{[]int{1, 1}, false},
		{[]int{2, 1}, false},
		{[]int{1, 2, 4}, false},
		{[]int{1, 3, 4}, false},
		{[]int{1, 2, 2}, false},
		{[]int{1, 1, 2}, false},
		{[]int{1, 2, 1}, false},
		{[]int{3, 2, 1}, false},
		{[]int{0, 1}, false},
		{[]int{-1, 0, 1}, false},
		{[]int{100000, 100001}, false},
		{[]int{math.MaxInt, math.MinInt}, false},
	} {
		l := versionsFrom(1, len(c.numbers))
		for i, n := range c.numbers {
			l[i].Number = n
		}
		checkVersions(t, l, c.good)
	}
}

// A list is not good if one of its snapshots, wherever it stands, is not so in one of its parts.
func TestVersionsWrongInEachPart(t *testing.T) {
	for _, n := range []int{1, 2, 5, 20} {
		for i := range n {
			for _, spoil := range []func(s *impl.Snapshot){
				func(s *impl.Snapshot) { s.Number++ },
				func(s *impl.Snapshot) { s.Number = 0 },
				func(s *impl.Snapshot) { s.Policy = rulesNumbered(2, 1) },
				func(s *impl.Snapshot) { s.Policy = rulesNumbered(1, 1) },
				func(s *impl.Snapshot) { s.Policy = make([]impl.Rule, 1) },
				func(s *impl.Snapshot) { s.Policy = rulesNumbered(upFrom(0, 31)...) },
				func(s *impl.Snapshot) { s.Revoked = []int{2, 1} },
				func(s *impl.Snapshot) { s.Revoked = []int{1, 1} },
				func(s *impl.Snapshot) { s.Revoked = []int{0} },
				func(s *impl.Snapshot) { s.Revoked = []int{100001} },
				func(s *impl.Snapshot) { s.Revoked = upFrom(1, 201) },
			} {
				l := versionsFrom(7, n)
				spoil(&l[i])
				checkVersions(t, l, n == 1 && l[0].Number == 8)
			}
		}
	}
}

// What need not be so: a version may take a number away that the one ahead had, and have the rules that it had.
func TestVersionsNeedNotGrow(t *testing.T) {
	l := []impl.Snapshot{snapshotOf(3, rulesNumbered(1), 5, 6), snapshotOf(4, rulesNumbered(1), 6), snapshotOf(5, rulesNumbered(1))}
	checkVersions(t, l, true)
	got, ok := impl.PutSnapshot(l[:1], rulesNumbered(1), []int{7})
	if !ok || len(got) != 2 || !slices.Equal(got[1].Revoked, []int{7}) {
		t.Error(got, ok)
	}
	if d, ok := impl.DiffOf(got[0], got[1]); ok || !sameDiff(d, impl.Diff{}) {
		t.Error(d, ok)
	}
}

func TestPutNumbersInAnyOrder(t *testing.T) {
	behind, twice := upFrom(1, 200), append(upFrom(1, 100), upFrom(1, 100)...)
	slices.Reverse(behind)
	for _, c := range []struct {
		put, want []int
		ok        bool
	}{
		{nil, nil, true},
		{[]int{5}, []int{5}, true},
		{[]int{5, 5}, []int{5}, true},
		{[]int{5, 5, 5, 5}, []int{5}, true},
		{[]int{3, 2, 1}, []int{1, 2, 3}, true},
		{[]int{2, 10, 9, 10, 2, 1}, []int{1, 2, 9, 10}, true},
		{[]int{100000, 1, 100000}, []int{1, 100000}, true},
		{behind, upFrom(1, 200), true},
		{twice, upFrom(1, 100), true},
		{slices.Repeat([]int{8}, 200), []int{8}, true},
		{slices.Repeat([]int{8}, 201), nil, false},
		{append(behind, 1), nil, false},
		{upFrom(1, 201), nil, false},
		{[]int{0}, nil, false},
		{[]int{1, 0}, nil, false},
		{[]int{1, -1, 2}, nil, false},
		{[]int{100001, 1}, nil, false},
		{[]int{math.MinInt}, nil, false},
		{[]int{1, math.MaxInt}, nil, false},
	} {
		for _, before := range [][]impl.Snapshot{nil, versionsFrom(1, 3), versionsFrom(1, 20)} {
			got, ok := impl.PutSnapshot(before, ordinary, c.put)
			if ok != c.ok || !ok && len(got) != 0 {
				t.Fatalf("PutSnapshot of %s = %s, %v", short(c.put), short(got), ok)
			}
			if ok && !sameSnapshot(got[len(got)-1], snapshotOf(len(before)+1, modelPlain(ordinary), c.want...)) {
				t.Errorf("PutSnapshot of %s = %s", short(c.put), short(got))
			}
		}
	}
}

func TestPutPolicies(t *testing.T) {
	behind := rulesNumbered(upFrom(0, 30)...)
	slices.Reverse(behind)
	for _, c := range []struct {
		put, want []impl.Rule
		ok        bool
	}{
		{nil, nil, true},
		{rulesNumbered(3, 1, 2), rulesNumbered(1, 2, 3), true},
		{rulesNumbered(3, 1, 3, 3, 1), rulesNumbered(1, 3), true},
		{behind, rulesNumbered(upFrom(0, 30)...), true},
		{slices.Repeat(rulesNumbered(4), 30), rulesNumbered(4), true},
		{slices.Repeat(rulesNumbered(4), 31), nil, false},
		{rulesNumbered(upFrom(0, 31)...), nil, false},
		{make([]impl.Rule, 1), nil, false},
		{append(rulesNumbered(1), impl.Rule{Who: "a/b", Method: "get", Path: "/**/a"}), nil, false},
	} {
		got, ok := impl.PutSnapshot(versionsFrom(8, 2), c.put, []int{2, 1})
		if ok != c.ok || !ok && len(got) != 0 {
			t.Fatalf("PutSnapshot of %s = %s, %v", short(c.put), short(got), ok)
		}
		if ok && (len(got) != 3 || !sameSnapshot(got[2], snapshotOf(10, c.want, 1, 2))) {
			t.Errorf("PutSnapshot of %s = %s", short(c.put), short(got))
		}
	}
}

// The first, the last and no number of a list.
func TestFromANumberOn(t *testing.T) {
	for _, n := range []int{1, 2, 3, 19, 20} {
		for _, first := range []int{1, 2, 500, 100001 - n} {
			l := versionsFrom(first, n)
			for i := range n {
				s, is := impl.SnapshotAt(l, first+i)
				m, ok := impl.CompactTo(l, first+i)
				if !is || !ok || !sameSnapshot(s, l[i]) || !sameVersions(m, l[i:]) {
					t.Error(first, n, i, s, is, short(m), ok)
				}
			}
			for _, number := range []int{math.MinInt, -1, 0, first - 1, first + n, first + n + 1, math.MaxInt} {
				s, is := impl.SnapshotAt(l, number)
				m, ok := impl.CompactTo(l, number)
				if is || ok || !sameSnapshot(s, impl.Snapshot{}) || len(m) != 0 {
					t.Error(first, n, number, s, is, short(m), ok)
				}
			}
		}
	}
}

func TestDiffNumbers(t *testing.T) {
	numbers := []int{math.MinInt, -1, 0, 1, 2, 3, 99999, 100000, 100001, math.MaxInt}
	for _, from := range numbers {
		for _, to := range numbers {
			a, b := snapshotOf(from, rulesNumbered(1, 2), 4), snapshotOf(to, rulesNumbered(2, 3), 4, 5)
			checkDiffOf(t, a, b)
			d, ok := impl.DiffOf(a, b)
			good := from >= 1 && to <= 100000 && from < to
			if ok != good || good && (d.From != from || d.To != to || !slices.Equal(d.Drop, rulesNumbered(1)) || !slices.Equal(d.Add, rulesNumbered(3)) || !slices.Equal(d.Revoked, []int{5})) {
				t.Error(from, to, d, ok)
			}
			d = impl.Diff{From: from, To: to, Drop: rulesNumbered(1), Add: rulesNumbered(3), Revoked: []int{5}}
			if checkApply(t, a, d) != good {
				t.Error("applied", from, to, !good)
			}
			for _, other := range numbers {
				if d.From = other; checkApply(t, a, d) != (good && other == from) {
					t.Error("applied", from, to, other)
				}
			}
		}
	}
}

func TestDiffRules(t *testing.T) {
	thirty, others := rulesNumbered(upFrom(0, 30)...), rulesNumbered(upFrom(30, 30)...)
	for _, c := range []struct{ a, b, drop, add []impl.Rule }{
		{nil, nil, nil, nil},
		{rulesNumbered(1, 2), rulesNumbered(1, 2), nil, nil},
		{nil, rulesNumbered(1, 2), nil, rulesNumbered(1, 2)},
		{rulesNumbered(1, 2), nil, rulesNumbered(1, 2), nil},
		{rulesNumbered(2), rulesNumbered(1, 2, 3), nil, rulesNumbered(1, 3)},
		{rulesNumbered(1, 2, 3), rulesNumbered(2), rulesNumbered(1, 3), nil},
		{rulesNumbered(1, 2, 5, 6), rulesNumbered(2, 3, 4, 6, 7), rulesNumbered(1, 5), rulesNumbered(3, 4, 7)},
		{rulesNumbered(1, 3), rulesNumbered(2, 4), rulesNumbered(1, 3), rulesNumbered(2, 4)},
		{thirty, others, thirty, others},
		{others, thirty, others, thirty},
		{thirty, thirty, nil, nil},
		{nil, thirty, nil, thirty},
		{thirty, nil, thirty, nil},
		{thirty, thirty[:29], thirty[29:], nil},
		{thirty[1:], thirty, nil, thirty[:1]},
	} {
		a, b := snapshotOf(3, c.a, 1), snapshotOf(8, c.b, 1)
		d, ok := impl.DiffOf(a, b)
		if !ok || !sameDiff(d, impl.Diff{From: 3, To: 8, Drop: c.drop, Add: c.add}) {
			t.Errorf("from %s to %s: %s, %v", short(c.a), short(c.b), short(d), ok)
		}
		checkDiffOf(t, a, b)
	}
}

// Rules are the same only if they are so in each field.
func TestDiffOfRulesNearlyAlike(t *testing.T) {
	r := impl.Rule{Who: "a/b", Method: "get", Path: "/c"}
	for _, other := range []impl.Rule{
		{Deny: true, Who: "a/b", Method: "get", Path: "/c"},
		{Who: "a/*", Method: "get", Path: "/c"},
		{Who: "a/b", Method: "*", Path: "/c"},
		{Who: "a/b", Method: "get", Path: "/**"},
	} {
		a, b := snapshotOf(1, []impl.Rule{r}), snapshotOf(2, []impl.Rule{other})
		d, ok := impl.DiffOf(a, b)
		if !ok || !slices.Equal(d.Drop, a.Policy) || !slices.Equal(d.Add, b.Policy) {
			t.Error(other, d, ok)
		}
		checkDiffOf(t, a, b)
		if checkApply(t, a, impl.Diff{From: 1, To: 2, Drop: b.Policy}) {
			t.Error(other)
		}
	}
}

func TestDiffRevoked(t *testing.T) {
	for _, c := range []struct {
		a, b, want []int
		ok         bool
	}{
		{nil, nil, nil, true},
		{nil, []int{1, 5}, []int{1, 5}, true},
		{[]int{5}, []int{1, 5, 9}, []int{1, 9}, true},
		{[]int{1, 5, 9}, []int{1, 5, 9}, nil, true},
		{[]int{1, 100000}, []int{1, 2, 100000}, []int{2}, true},
		{nil, upFrom(1, 200), upFrom(1, 200), true},
		{upFrom(1, 199), upFrom(1, 200), []int{200}, true},
		{upFrom(1, 200), upFrom(1, 200), nil, true},
		{[]int{1}, nil, nil, false},
		{[]int{1, 5, 9}, []int{5, 9}, nil, false},
		{[]int{1, 5, 9}, []int{1, 9}, nil, false},
		{[]int{1, 5, 9}, []int{1, 5}, nil, false},
		{[]int{1, 5, 9}, []int{1, 2, 3, 4, 5, 6, 7, 8}, nil, false},
		{upFrom(1, 200), upFrom(2, 200), nil, false},
	} {
		a, b := snapshotOf(1, rulesNumbered(1), c.a...), snapshotOf(2, rulesNumbered(2), c.b...)
		d, ok := impl.DiffOf(a, b)
		if ok != c.ok || !slices.Equal(d.Revoked, c.want) || !ok && !sameDiff(d, impl.Diff{}) {
			t.Error(short(c), short(d), ok)
		}
		checkDiffOf(t, a, b)
	}
}

func TestApplyWrongInEachPart(t *testing.T) {
	s := snapshotOf(4, rulesNumbered(10, 20, 30), 5, 7)
	right := impl.Diff{From: 4, To: 6, Drop: rulesNumbered(10, 30), Add: rulesNumbered(15, 35), Revoked: []int{1, 6, 9}}
	got, ok := impl.ApplyDiff(s, right)
	if !ok || !sameSnapshot(got, snapshotOf(6, rulesNumbered(15, 20, 35), 1, 5, 6, 7, 9)) {
		t.Fatal(got, ok)
	}
	for what, spoil := range map[string]func(d *impl.Diff){
		"another From":               func(d *impl.Diff) { d.From = 3 },
		"a From above":               func(d *impl.Diff) { d.From = 5 },
		"no From":                    func(d *impl.Diff) { d.From = 0 },
		"To as From":                 func(d *impl.Diff) { d.To = 4 },
		"To below From":              func(d *impl.Diff) { d.To = 3 },
		"no To":                      func(d *impl.Diff) { d.To = 0 },
		"To beyond":                  func(d *impl.Diff) { d.To = 100001 },
		"Drop not in it":             func(d *impl.Diff) { d.Drop = rulesNumbered(10, 11) },
		"Drop alone not in it":       func(d *impl.Diff) { d.Drop = rulesNumbered(40) },
		"Drop twice":                 func(d *impl.Diff) { d.Drop = rulesNumbered(10, 10, 30) },
		"Drop in another order":      func(d *impl.Diff) { d.Drop = rulesNumbered(30, 10) },
		"Drop no rule":               func(d *impl.Diff) { d.Drop = append(rulesNumbered(10, 30), impl.Rule{}) },
		"Drop far too long":          func(d *impl.Diff) { d.Drop = slices.Repeat(rulesNumbered(10, 30), 1000) },
		"Add in it already":          func(d *impl.Diff) { d.Add = rulesNumbered(15, 20) },
		"Add of what is dropped":     func(d *impl.Diff) { d.Add = rulesNumbered(10, 15) },
		"Add and Drop alike":         func(d *impl.Diff) { d.Add = rulesNumbered(10, 30) },
		"Add twice":                  func(d *impl.Diff) { d.Add = rulesNumbered(15, 15, 35) },
		"Add in another order":       func(d *impl.Diff) { d.Add = rulesNumbered(35, 15) },
		"Add no rule":                func(d *impl.Diff) { d.Add = []impl.Rule{{Who: "a", Method: "get", Path: "/"}} },
		"Add far too long":           func(d *impl.Diff) { d.Add = rulesNumbered(upFrom(100, 1000)...) },
		"Revoked there already":      func(d *impl.Diff) { d.Revoked = []int{1, 5} },
		"Revoked all there already":  func(d *impl.Diff) { d.Revoked = []int{5, 7} },
		"Revoked fall":               func(d *impl.Diff) { d.Revoked = []int{6, 1, 9} },
		"Revoked twice":              func(d *impl.Diff) { d.Revoked = []int{1, 6, 6} },
		"Revoked 0":                  func(d *impl.Diff) { d.Revoked = []int{0, 1} },
		"Revoked below 0":            func(d *impl.Diff) { d.Revoked = []int{math.MinInt, 1} },
		"Revoked 100001":             func(d *impl.Diff) { d.Revoked = []int{1, 100001} },
		"Revoked far too many":       func(d *impl.Diff) { d.Revoked = upFrom(10, 99991) },
		"Drop one, then it is there": func(d *impl.Diff) { d.Drop, d.Add = rulesNumbered(10), rulesNumbered(15, 30) },
	} {
		d := right
		spoil(&d)
		if got, ok := impl.ApplyDiff(s, d); ok || !sameSnapshot(got, impl.Snapshot{}) {
			t.Errorf("%s: %s, %v", what, short(got), ok)
		}
		checkApply(t, s, d)
	}
	for _, d := range []impl.Diff{
		{From: 4, To: 5}, {From: 4, To: 100000}, {From: 4, To: 5, Revoked: []int{100000}}, {From: 4, To: 5, Revoked: []int{1}},
		{From: 4, To: 5, Drop: s.Policy}, {From: 4, To: 5, Drop: s.Policy, Add: rulesNumbered(1)}, {From: 4, To: 5, Add: rulesNumbered(1, 40)},
	} {
		if !checkApply(t, s, d) {
			t.Error(d)
		}
	}
}

func TestApplyLimitsMet(t *testing.T) {
	for had := 0; had <= 30; had += 10 {
		for drop := 0; drop <= had; drop += 5 {
			for add := 0; add <= 31; add++ {
				s := snapshotOf(1, rulesNumbered(upFrom(100, had)...))
				d := impl.Diff{From: 1, To: 2, Drop: s.Policy[:drop], Add: rulesNumbered(upFrom(500, add)...)}
				if ok := checkApply(t, s, d); ok != (had-drop+add <= 30) {
					t.Error(had, drop, add, ok)
				}
			}
		}
	}
	for _, had := range []int{0, 1, 100, 199, 200} {
		for _, more := range []int{0, 1, 2, 99, 100, 101, 199, 200, 201, 202} {
			s := snapshotOf(1, nil, upFrom(1000, had)...)
			for _, first := range []int{1, 5000} {
				if ok := checkApply(t, s, impl.Diff{From: 1, To: 2, Revoked: upFrom(first, more)}); ok != (had+more <= 200) {
					t.Error(had, more, first, ok)
				}
			}
		}
	}
}

// What is not good has no difference and takes none, however well the difference fits.
func TestApplyToWhatIsNotGood(t *testing.T) {
	d := impl.Diff{From: 4, To: 6, Add: rulesNumbered(5), Revoked: []int{8}}
	if !checkApply(t, snapshotOf(4, rulesNumbered(1, 2), 1, 2), d) {
		t.Error("refused")
	}
	for _, s := range []impl.Snapshot{
		snapshotOf(4, rulesNumbered(2, 1), 1, 2),
		snapshotOf(4, rulesNumbered(1, 1), 1, 2),
		snapshotOf(4, make([]impl.Rule, 1), 1, 2),
		snapshotOf(4, rulesNumbered(upFrom(10, 31)...), 1, 2),
		snapshotOf(4, rulesNumbered(1, 2), 2, 1),
		snapshotOf(4, rulesNumbered(1, 2), 1, 1),
		snapshotOf(4, rulesNumbered(1, 2), 0, 1),
		snapshotOf(4, rulesNumbered(1, 2), 1, 100001),
		snapshotOf(4, rulesNumbered(1, 2), upFrom(10, 201)...),
	} {
		if checkApply(t, s, d) {
			t.Errorf("applied to %s", short(s))
		}
		checkDiffOf(t, s, snapshotOf(9, rulesNumbered(1, 2), upFrom(1, 200)...))
		checkDiffOf(t, snapshotOf(1, nil), s)
	}
	s := snapshotOf(4, rulesNumbered(upFrom(10, 31)...))
	if checkApply(t, s, impl.Diff{From: 4, To: 5, Drop: s.Policy[:5]}) {
		t.Error("applied to one rule too many")
	}
}
