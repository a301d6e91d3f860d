package tests

import (
	"fmt"
	"maps"
	"math/rand/v2"
	"slices"

	"loop.example/g00167/impl"
)

// The model holds rules by their text and numbers as sets, and sorts them when it tells them; it calls nothing of the program.

func modelGoodNumbers(l []int) bool {
	for _, n := range l {
		if n < 1 || n > 100000 {
			return false
		}
	}
	return len(l) <= 200
}

func modelRising(lists ...[]int) []int {
	set := map[int]bool{}
	for _, l := range lists {
		for _, n := range l {
			set[n] = true
		}
	}
	return slices.Sorted(maps.Keys(set))
}

func modelGoodSnapshot(s impl.Snapshot) bool {
	if s.Number < 1 || s.Number > 100000 || !modelGoodPolicy(s.Policy) || !modelGoodNumbers(s.Revoked) {
		return false
	}
	return slices.Equal(modelPlain(s.Policy), s.Policy) && slices.Equal(modelRising(s.Revoked), s.Revoked)
}

func modelGoodVersions(l []impl.Snapshot) bool {
	for i, s := range l {
		if len(l) > 20 || !modelGoodSnapshot(s) || s.Number-i != l[0].Number {
			return false
		}
	}
	return true
}

func modelPut(l []impl.Snapshot, policy []impl.Rule, revoked []int) ([]impl.Snapshot, bool) {
	if !modelGoodVersions(l) || !modelGoodPolicy(policy) || !modelGoodNumbers(revoked) {
		return nil, false
	}
	number := 1
	for _, s := range l {
		number = s.Number + 1
	}
	if number > 100000 {
		return nil, false
	}
	all := append(slices.Clone(l), impl.Snapshot{Number: number, Policy: modelPlain(policy), Revoked: modelRising(revoked)})
	for len(all) > 20 {
		all = all[1:]
	}
	return all, true
}

// modelFrom tells the snapshots from a number on that is in the list.
func modelFrom(l []impl.Snapshot, number int) ([]impl.Snapshot, bool) {
	if !modelGoodVersions(l) {
		return nil, false
	}
	for i, s := range l {
		if s.Number == number {
			return l[i:], true
		}
	}
	return nil, false
}

func modelAt(l []impl.Snapshot, number int) (impl.Snapshot, bool) {
	from, ok := modelFrom(l, number)
	if !ok {
		return impl.Snapshot{}, false
	}
	return from[0], true
}

func modelLess[T comparable](l, gone []T) []T {
	set := map[T]bool{}
	for _, x := range gone {
		set[x] = true
	}
	return slices.DeleteFunc(slices.Clone(l), func(x T) bool { return set[x] })
}

func modelDiff(a, b impl.Snapshot) (impl.Diff, bool) {
	if !modelGoodSnapshot(a) || !modelGoodSnapshot(b) || b.Number <= a.Number || len(modelLess(a.Revoked, b.Revoked)) > 0 {
		return impl.Diff{}, false
	}
	return impl.Diff{From: a.Number, To: b.Number, Drop: modelLess(a.Policy, b.Policy), Add: modelLess(b.Policy, a.Policy), Revoked: modelLess(b.Revoked, a.Revoked)}, true
}

// modelApply asks for each part of a difference by itself, and not by telling it anew.
func modelApply(s impl.Snapshot, d impl.Diff) (impl.Snapshot, bool) {
	if !modelGoodSnapshot(s) || d.From != s.Number || d.To <= d.From || d.To > 100000 {
		return impl.Snapshot{}, false
	}
	drops := len(modelLess(d.Drop, s.Policy)) == 0 && slices.Equal(modelPlain(d.Drop), d.Drop)
	adds := len(modelLess(d.Add, s.Policy)) == len(d.Add) && slices.Equal(modelPlain(d.Add), d.Add) && modelGoodPolicy(d.Add)
	grows := len(modelLess(d.Revoked, s.Revoked)) == len(d.Revoked) && slices.Equal(modelRising(d.Revoked), d.Revoked) && modelGoodNumbers(d.Revoked)
	rules, numbers := len(s.Policy)-len(d.Drop)+len(d.Add), len(s.Revoked)+len(d.Revoked)
	if !drops || !adds || !grows || rules > 30 || numbers > 200 {
		return impl.Snapshot{}, false
	}
	policy := modelPlain(slices.Concat(modelLess(s.Policy, d.Drop), d.Add))
	return impl.Snapshot{Number: d.To, Policy: policy, Revoked: modelRising(s.Revoked, d.Revoked)}, true
}

func sameSnapshot(a, b impl.Snapshot) bool {
	return a.Number == b.Number && slices.Equal(a.Policy, b.Policy) && slices.Equal(a.Revoked, b.Revoked)
}

func sameVersions(a, b []impl.Snapshot) bool {
	return slices.EqualFunc(a, b, sameSnapshot)
}

func sameDiff(a, b impl.Diff) bool {
	return a.From == b.From && a.To == b.To && slices.Equal(a.Drop, b.Drop) && slices.Equal(a.Add, b.Add) && slices.Equal(a.Revoked, b.Revoked)
}

// ruleNumbered tells rules that are all unlike and whose texts rise with their number.
func ruleNumbered(k int) impl.Rule {
	return impl.Rule{Who: fmt.Sprintf("p/w%04d", k), Method: "get", Path: "/"}
}

func rulesNumbered(numbers ...int) []impl.Rule {
	var l []impl.Rule
	for _, k := range numbers {
		l = append(l, ruleNumbered(k))
	}
	return l
}

// upFrom tells n numbers, each one more than the one ahead.
func upFrom(first, n int) []int {
	var l []int
	for i := range n {
		l = append(l, first+i)
	}
	return l
}

func snapshotOf(number int, policy []impl.Rule, revoked ...int) impl.Snapshot {
	return impl.Snapshot{Number: number, Policy: policy, Revoked: revoked}
}

// versionsFrom tells a good list of n snapshots, no two of which have the same rules.
func versionsFrom(first, n int) []impl.Snapshot {
	var l []impl.Snapshot
	for i := range n {
		l = append(l, snapshotOf(first+i, rulesNumbered(i, i+1), upFrom(1, i)...))
	}
	return l
}

// copyVersions keeps a list as it is, whatever becomes of its memory.
func copyVersions(l []impl.Snapshot) []impl.Snapshot {
	var all []impl.Snapshot
	for _, s := range l {
		all = append(all, snapshotOf(s.Number, slices.Clone(s.Policy), slices.Clone(s.Revoked)...))
	}
	return all
}

// randomNext tells a good snapshot that has some of s and some that is new; once in a while one of its numbers is gone.
func randomNext(rnd *rand.Rand, s impl.Snapshot, rules []impl.Rule) impl.Snapshot {
	stays := rnd.IntN(2) == 0
	policy := slices.DeleteFunc(slices.Clone(s.Policy), func(impl.Rule) bool { return !stays && rnd.IntN(4) == 0 })
	policy = append(policy, policyOf(rnd, rules, rnd.IntN(min(9, 31-len(policy))))...)
	revoked := slices.Clone(s.Revoked)
	for range rnd.IntN(4) {
		revoked = append(revoked, 1+rnd.IntN(40))
	}
	if rnd.IntN(8) == 0 {
		revoked = append(revoked, 100000-rnd.IntN(2))
	}
	if rnd.IntN(8) == 0 && len(revoked) > 0 {
		revoked = modelLess(revoked, revoked[:1])
	}
	return snapshotOf(s.Number+1, modelPlain(policy), modelRising(revoked)...)
}

func randomVersions(rnd *rand.Rand, rules []impl.Rule, n int) []impl.Snapshot {
	var l []impl.Snapshot
	s := snapshotOf(rnd.IntN(50), nil, 7)
	if rnd.IntN(5) == 0 {
		s.Number = 100000 - n
	}
	for range n {
		s = randomNext(rnd, s, rules)
		l = append(l, s)
	}
	return l
}
