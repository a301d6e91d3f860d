package tests

import (
	"fmt"
	"math/rand/v2"
	"slices"
	"testing"

	"loop.example/g00167/impl"
)

// The fifth promise in its own words, on the program's answers: versions are put one behind another, and told and made anew by their differences.
func TestADifferenceMakesTheLaterOfTheEarlier(t *testing.T) {
	rules := smallRules()
	told := map[string]int{}
	for round := range 60 {
		rnd := rand.New(rand.NewPCG(5, uint64(round)))
		var l []impl.Snapshot
		s := impl.Snapshot{}
		for range 30 {
			s = randomNext(rnd, s, rules)
			policy, revoked := append(policyOf(rnd, s.Policy, min(len(s.Policy), 30-len(s.Policy))), s.Policy...), slices.Concat(s.Revoked, s.Revoked)
			rnd.Shuffle(len(policy), func(i, j int) { policy[i], policy[j] = policy[j], policy[i] })
			rnd.Shuffle(len(revoked), func(i, j int) { revoked[i], revoked[j] = revoked[j], revoked[i] })
			var ok bool
			l, ok = impl.PutSnapshot(l, policy, revoked)
			if !ok || !sameSnapshot(l[len(l)-1], s) || len(l) != min(s.Number, 20) {
				t.Fatalf("%s was put and is %s, %v", short(s), short(l), ok)
			}
		}
		for _, a := range l {
			for _, b := range l {
				told[pairTold(t, a, b)]++
			}
		}
	}
	for _, what := range []string{"none", "taken back again", "drop and add", "drop", "add"} {
		if told[what] < 20 {
			t.Errorf("%s only %v times", what, told[what])
		}
	}
}

// pairTold asks for the difference of two versions, makes the later one by it, and tells of what kind it is.
func pairTold(t *testing.T, a, b impl.Snapshot) string {
	d, ok := impl.DiffOf(a, b)
	if a.Number >= b.Number {
		if ok {
			t.Fatalf("from %v to %v: %v", a, b, d)
		}
		return "none"
	}
	if len(modelLess(a.Revoked, b.Revoked)) > 0 {
		if ok {
			t.Fatalf("from %v to %v: %v", a, b, d)
		}
		return "taken back again"
	}
	made, is := impl.ApplyDiff(a, d)
	if !ok || !is || !sameSnapshot(made, b) || !impl.GoodSnapshot(made) {
		t.Fatalf("from %v to %v: %v, %v makes %v, %v", a, b, d, ok, made, is)
	}
	again, ok := impl.DiffOf(a, made)
	if !ok || !sameDiff(again, d) {
		t.Fatalf("from %v to %v: %v, then %v", a, b, d, again)
	}
	switch {
	case len(d.Drop) > 0 && len(d.Add) > 0:
		return "drop and add"
	case len(d.Drop) > 0:
		return "drop"
	case len(d.Add) > 0:
		return "add"
	}
	return "alike"
}

// Step by step or at once: the differences of neighbours lead to the same version as the one from the first to the last.
func TestDifferencesOneBehindAnother(t *testing.T) {
	rnd := rand.New(rand.NewPCG(5, 500))
	rules := smallRules()
	for range 100 {
		l := randomVersions(rnd, rules, 20)
		for i := range l[1:] {
			l[i+1].Revoked = modelRising(l[i].Revoked, l[i+1].Revoked)
		}
		s := l[0]
		for i, next := range l[1:] {
			d, ok := impl.DiffOf(l[i], next)
			var is bool
			s, is = impl.ApplyDiff(s, d)
			if !ok || !is || !sameSnapshot(s, next) {
				t.Fatalf("from %v to %v: %v, %v, %v, %v", l[i], next, d, ok, s, is)
			}
		}
		d, _ := impl.DiffOf(l[0], s)
		if last, ok := impl.ApplyDiff(l[0], d); !ok || !sameSnapshot(last, l[19]) {
			t.Fatal(last, ok)
		}
	}
}

// All differences of a few rules and numbers, right ones and wrong ones: just those are applied that the difference to some version tells.
func TestApplyAllSmallDifferences(t *testing.T) {
	lists := [][]int{nil}
	for i := 0; i < len(lists); i++ {
		if len(lists[i]) < 2 {
			for k := 1; k <= 3; k++ {
				lists = append(lists, append(slices.Clone(lists[i]), k))
			}
		}
	}
	applied := 0
	for _, has := range [][]int{nil, {1}, {2}, {1, 3}, {1, 2, 3}} {
		s := snapshotOf(2, rulesNumbered(has...), has...)
		for _, drop := range lists {
			for _, add := range lists {
				for _, revoked := range lists {
					if checkApply(t, s, impl.Diff{From: 2, To: 3, Drop: rulesNumbered(drop...), Add: rulesNumbered(add...), Revoked: revoked}) {
						applied++
					}
				}
			}
		}
	}
	if applied < 100 {
		t.Errorf("only %v applied", applied)
	}
}

// The tenth promise for this chapter: any arguments, none changed, none shared.

type storeCall struct {
	l       []impl.Snapshot
	policy  []impl.Rule
	revoked []int
	number  int
	a, b    impl.Snapshot
	d       impl.Diff
}

// What stands behind each list would make a longer good list of most of them, if it were read.
var ruleBehind = impl.Rule{Deny: true, Who: "zzz/zzz", Method: "put", Path: "/zzz"}

const numberBehind = 99998

// guard hands lists over with room behind them, and tells whether all memory is still as it was.
type guard struct {
	asked []func() bool
}

func guarded[T comparable](g *guard, l []T, behind T) []T {
	handed, whole := spare(l, behind)
	before := slices.Clone(whole)
	g.asked = append(g.asked, func() bool { return slices.Equal(whole, before) })
	return handed
}

func (g *guard) snapshot(s impl.Snapshot) impl.Snapshot {
	return impl.Snapshot{Number: s.Number, Policy: guarded(g, s.Policy, ruleBehind), Revoked: guarded(g, s.Revoked, numberBehind)}
}

func (g *guard) diff(d impl.Diff) impl.Diff {
	return impl.Diff{From: d.From, To: d.To, Drop: guarded(g, d.Drop, ruleBehind), Add: guarded(g, d.Add, ruleBehind), Revoked: guarded(g, d.Revoked, numberBehind)}
}

func (g *guard) versions(l []impl.Snapshot) []impl.Snapshot {
	var each []impl.Snapshot
	next := impl.Snapshot{Number: 1}
	for _, s := range l {
		each = append(each, g.snapshot(s))
		next.Number = s.Number + 1
	}
	handed, whole := spare(each, next)
	before := copyVersions(whole)
	g.asked = append(g.asked, func() bool { return sameVersions(whole, before) })
	return handed
}

func (g *guard) unchanged() bool {
	for _, is := range g.asked {
		if !is() {
			return false
		}
	}
	return true
}

// answered gathers the lists of one answer.
type answered struct {
	rules    [][]impl.Rule
	numbers  [][]int
	versions []impl.Snapshot
}

func (a *answered) snapshots(l ...impl.Snapshot) {
	for _, s := range l {
		a.rules = append(a.rules, s.Policy)
		a.numbers = append(a.numbers, s.Revoked)
	}
}

// alone marks the memory of each list up to its end, and then asks whether each has its own mark: if not, two share some.
func (a *answered) alone() bool {
	for i, l := range a.rules {
		for k := range l[:cap(l)] {
			if l[:cap(l)][k] == ruleBehind {
				return false
			}
			l[:cap(l)][k] = impl.Rule{Who: fmt.Sprint("mark ", i)}
		}
	}
	for i, l := range a.numbers {
		for k := range l[:cap(l)] {
			if l[:cap(l)][k] == numberBehind {
				return false
			}
			l[:cap(l)][k] = -i
		}
	}
	wipe(a.versions)
	for i, l := range a.rules {
		if slices.ContainsFunc(l[:cap(l)], func(r impl.Rule) bool { return r.Who != fmt.Sprint("mark ", i) }) {
			return false
		}
	}
	for i, l := range a.numbers {
		if slices.ContainsFunc(l[:cap(l)], func(n int) bool { return n != -i }) {
			return false
		}
	}
	return true
}

// checkStoreCall asks every function of the chapter, holds each answer against the model's, and writes over all of it behind.
func checkStoreCall(t *testing.T, c storeCall) {
	t.Helper()
	g := &guard{}
	l, a, b, d := g.versions(c.l), g.snapshot(c.a), g.snapshot(c.b), g.diff(c.d)
	policy, revoked := guarded(g, c.policy, ruleBehind), guarded(g, c.revoked, numberBehind)

	if got, want := impl.GoodSnapshot(a), modelGoodSnapshot(c.a); got != want {
		t.Errorf("GoodSnapshot(%s) = %v", short(c.a), got)
	}
	put, ok := impl.PutSnapshot(l, policy, revoked)
	if want, is := modelPut(c.l, c.policy, c.revoked); ok != is || !sameVersions(put, want) {
		t.Errorf("PutSnapshot(%s, %s, %s) = %s, %v", short(c.l), short(c.policy), short(c.revoked), short(put), ok)
	}
	at, ok := impl.SnapshotAt(l, c.number)
	if want, is := modelAt(c.l, c.number); ok != is || !sameSnapshot(at, want) {
		t.Errorf("SnapshotAt(%s, %v) = %s, %v", short(c.l), c.number, short(at), ok)
	}
	told, ok := impl.DiffOf(a, b)
	if want, is := modelDiff(c.a, c.b); ok != is || !sameDiff(told, want) {
		t.Errorf("DiffOf(%s, %s) = %s, %v", short(c.a), short(c.b), short(told), ok)
	}
	made, ok := impl.ApplyDiff(a, d)
	if want, is := modelApply(c.a, c.d); ok != is || !sameSnapshot(made, want) {
		t.Errorf("ApplyDiff(%s, %s) = %s, %v", short(c.a), short(c.d), short(made), ok)
	}
	from, ok := impl.CompactTo(l, c.number)
	if want, is := modelFrom(c.l, c.number); ok != is || !sameVersions(from, want) {
		t.Errorf("CompactTo(%s, %v) = %s, %v", short(c.l), c.number, short(from), ok)
	}

	all := answered{versions: put}
	all.snapshots(put...)
	all.snapshots(at, made)
	all.snapshots(from...)
	all.rules = append(all.rules, told.Drop, told.Add)
	all.numbers = append(all.numbers, told.Revoked)
	if !all.alone() {
		t.Errorf("shared: %s", short(c))
	}
	wipe(from)
	if !g.unchanged() {
		t.Errorf("changed: %s", short(c))
	}
}

// oddSnapshot makes one part of a snapshot odd.
func oddSnapshot(rnd *rand.Rand, s impl.Snapshot, odd []impl.Rule) impl.Snapshot {
	switch rnd.IntN(5) {
	case 0:
		s.Number = oddNumbers[rnd.IntN(len(oddNumbers))]
	case 1:
		s.Policy = append(slices.Clone(s.Policy), odd[rnd.IntN(len(odd))])
	case 2:
		s.Policy = slices.Concat(s.Policy, s.Policy)
	case 3:
		s.Revoked = append(slices.Clone(s.Revoked), oddNumbers[rnd.IntN(len(oddNumbers))])
	case 4:
		s.Revoked = slices.Clone(s.Revoked)
		slices.Reverse(s.Revoked)
	}
	return s
}

// oddList drops one of a list, doubles one, turns two about, or puts one behind.
func oddList[T any](rnd *rand.Rand, l []T, behind T) []T {
	odd := slices.Clone(l)
	if len(odd) == 0 {
		return append(odd, behind)
	}
	i, k := rnd.IntN(len(odd)), rnd.IntN(len(odd))
	switch rnd.IntN(4) {
	case 0:
		return slices.Delete(odd, i, i+1)
	case 1:
		return slices.Insert(odd, i, odd[k])
	case 2:
		odd[i], odd[k] = odd[k], odd[i]
	case 3:
		odd = append(odd, behind)
	}
	return odd
}

func oddDiff(rnd *rand.Rand, d impl.Diff, rule impl.Rule) impl.Diff {
	number := oddNumbers[rnd.IntN(len(oddNumbers))]
	switch rnd.IntN(5) {
	case 0:
		d.From = number
	case 1:
		d.To = number
	case 2:
		d.Drop = oddList(rnd, d.Drop, rule)
	case 3:
		d.Add = oddList(rnd, d.Add, rule)
	case 4:
		d.Revoked = oddList(rnd, d.Revoked, number)
	}
	return d
}

func TestAnyVersions(t *testing.T) {
	rnd := rand.New(rand.NewPCG(5, 1000))
	odd, rules := oddRules(), smallRules()
	for round := range 4000 {
		c := storeCall{l: randomVersions(rnd, rules, rnd.IntN(23)), policy: policyOf(rnd, rules, rnd.IntN(32)), revoked: oddList(rnd, upFrom(rnd.IntN(9), rnd.IntN(9)), 3)}
		c.a = randomVersions(rnd, rules, 1)[0]
		c.b = randomNext(rnd, c.a, rules)
		c.d, _ = modelDiff(c.a, c.b)
		c.number = rnd.IntN(70)
		if len(c.l) > 0 {
			c.number = c.l[0].Number + rnd.IntN(len(c.l)+2) - 1
		}
		switch round % 8 {
		case 0:
			if len(c.l) > 0 {
				i := rnd.IntN(len(c.l))
				c.l[i] = oddSnapshot(rnd, c.l[i], odd)
			}
		case 1:
			c.l = oddList(rnd, c.l, impl.Snapshot{})
		case 2:
			c.policy = append(c.policy, odd[rnd.IntN(len(odd))])
		case 3:
			c.revoked = append(c.revoked, oddNumbers[rnd.IntN(len(oddNumbers))])
		case 4:
			c.a = oddSnapshot(rnd, c.a, odd)
		case 5:
			c.b = oddSnapshot(rnd, c.b, odd)
		case 6:
			c.d = oddDiff(rnd, c.d, append(odd, rules...)[rnd.IntN(len(odd)+len(rules))])
			c.number = oddNumbers[rnd.IntN(len(oddNumbers))]
		}
		checkStoreCall(t, c)
	}
	checkStoreCall(t, storeCall{})
}

func TestVersionsFarTooLong(t *testing.T) {
	long := impl.Snapshot{Number: 3, Policy: slices.Repeat(rulesNumbered(1, 2), 50000), Revoked: upFrom(1, 100000)}
	good := snapshotOf(3, rulesNumbered(1, 2), 1, 2)
	later := impl.Snapshot{Number: 9, Policy: long.Policy, Revoked: long.Revoked}
	diff := impl.Diff{From: 3, To: 9, Drop: long.Policy, Add: long.Policy, Revoked: long.Revoked}
	checkStoreCall(t, storeCall{l: make([]impl.Snapshot, 100000), policy: long.Policy, revoked: long.Revoked, number: 3, a: long, b: later, d: diff})
	checkStoreCall(t, storeCall{l: versionsFrom(1, 3000), policy: ordinary, number: 3000, a: good, b: later, d: diff})
	checkStoreCall(t, storeCall{l: []impl.Snapshot{good}, policy: long.Policy, number: 3, a: good, b: snapshotOf(4, nil), d: impl.Diff{From: 3, To: 4, Drop: long.Policy}})
	checkStoreCall(t, storeCall{l: []impl.Snapshot{good}, revoked: long.Revoked, number: 3, a: long, b: good, d: impl.Diff{From: 3, To: 4}})
}

// Two answers made of one list share nothing: what is put behind one is not behind the other.
func TestVersionsAnswersAreNew(t *testing.T) {
	for _, n := range []int{0, 1, 5, 19, 20} {
		l := slices.Grow(versionsFrom(1, n), 9)
		a, _ := impl.PutSnapshot(l, rulesNumbered(7), []int{7})
		b, _ := impl.PutSnapshot(l, rulesNumbered(8), []int{8})
		if a[len(a)-1].Policy[0] != ruleNumbered(7) || b[len(b)-1].Policy[0] != ruleNumbered(8) || l[:n+1][n].Number != 0 {
			t.Error(n, short(a), short(b))
		}
		c, _ := impl.CompactTo(a, a[0].Number)
		d, _ := impl.PutSnapshot(c, rulesNumbered(9), nil)
		e := append(c, impl.Snapshot{Number: -1})
		if d[len(d)-1].Number != n+2 || e[len(e)-1].Number != -1 || !sameVersions(l, versionsFrom(1, n)) {
			t.Error(n, short(d), short(e))
		}
	}
}

// The same memory may be handed in more than once; the answer still has its own.
func TestVersionsOfOneMemory(t *testing.T) {
	one := snapshotOf(1, rulesNumbered(1, 2), 3, 4)
	two := impl.Snapshot{Number: 2, Policy: one.Policy, Revoked: one.Revoked}
	l := []impl.Snapshot{one, two}
	put, ok := impl.PutSnapshot(l, one.Policy, two.Revoked)
	from, is := impl.CompactTo(l, 1)
	d, told := impl.DiffOf(one, two)
	made, applied := impl.ApplyDiff(one, d)
	all := answered{}
	all.snapshots(put...)
	all.snapshots(from...)
	all.snapshots(made)
	if !ok || !is || !told || !applied || len(put) != 3 || len(from) != 2 || !sameSnapshot(made, two) || !all.alone() {
		t.Error(put, from, d, made)
	}
	last := slices.Clone(one.Policy[1:])
	s, ok := impl.ApplyDiff(one, impl.Diff{From: 1, To: 5, Drop: one.Policy[1:2:2], Revoked: nil})
	if !ok || !slices.Equal(s.Policy, rulesNumbered(1)) || !slices.Equal(one.Policy[1:], last) {
		t.Error(s, ok, one)
	}
	clear(s.Policy)
	if !sameVersions(l, []impl.Snapshot{snapshotOf(1, rulesNumbered(1, 2), 3, 4), snapshotOf(2, rulesNumbered(1, 2), 3, 4)}) {
		t.Error(l)
	}
}

// FuzzVersions puts and cuts versions by what it is fed: each three bytes are an act.
func FuzzVersions(f *testing.F) {
	f.Add([]byte{0, 1, 2, 0, 3, 4, 1, 0, 0, 2, 9, 9})
	f.Add([]byte{})
	f.Fuzz(func(t *testing.T, acts []byte) {
		rules := smallRules()
		l := []impl.Snapshot(nil)
		c := storeCall{}
		for ; len(acts) > 2 && len(acts) < 200; acts = acts[3:] {
			x, y := int(acts[1]), int(acts[2])
			c.number = x - y
			switch acts[0] % 4 {
			case 0:
				c.policy = append(c.policy, rules[x%len(rules)])
				c.revoked = append(c.revoked, y)
			case 1:
				l, _ = impl.PutSnapshot(l, c.policy, c.revoked)
			case 2:
				l, _ = impl.CompactTo(l, x)
			case 3:
				c.policy, c.revoked = c.policy[min(x, len(c.policy)):], c.revoked[min(y, len(c.revoked)):]
			}
			if c.l = l; len(l) > 0 {
				c.a, c.b = l[x%len(l)], l[y%len(l)]
				c.d, _ = modelDiff(c.a, c.b)
			}
			checkStoreCall(t, c)
		}
	})
}
