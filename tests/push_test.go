package tests

import (
	"math"
	"slices"
	"testing"

	"loop.example/g00167/impl"
)

func TestPushConstants(t *testing.T) {
	if impl.MaxMails != 200 || impl.MailBegin != 1 || impl.MailRule != 2 || impl.MailRevoked != 3 || impl.MailCommit != 4 {
		t.Error(impl.MaxMails, impl.MailBegin, impl.MailRule, impl.MailRevoked, impl.MailCommit)
	}
}

// nothing is in force at a side that is zero.
var nothing = impl.Snapshot{}

// A version with three places, and what is told of it, each mail written out from the document's words alone.
var pushed = impl.Snapshot{Number: 5, Policy: []impl.Rule{{Who: "a/b", Method: "get", Path: "/"}, {Deny: true, Who: "a/*", Method: "*", Path: "/x/**"}}, Revoked: []int{7}}

var pushedMails = []impl.Mail{
	{Kind: 1, Version: 5, Number: 3},
	{Kind: 2, Version: 5, Number: 0, Rule: impl.Rule{Who: "a/b", Method: "get", Path: "/"}},
	{Kind: 2, Version: 5, Number: 1, Rule: impl.Rule{Deny: true, Who: "a/*", Method: "*", Path: "/x/**"}},
	{Kind: 3, Version: 5, Number: 2, Serial: 7},
	{Kind: 4, Version: 5, Number: 3},
}

// fullSnapshot meets both limits at once.
func fullSnapshot(number int) impl.Snapshot {
	return snapshotOf(number, rulesNumbered(upFrom(0, 30)...), append(upFrom(1, 199), 100000)...)
}

// taken hands a mail to a side, holds the answer against the model's, and hands it on.
func taken(t *testing.T, s impl.Side, m impl.Mail) impl.Side {
	t.Helper()
	got, ok := impl.TakeMail(s, m)
	want, is := modelTake(s, m)
	if ok != is || !sameSide(got, want) {
		t.Fatalf("TakeMail(%s, %+v) = %s, %v; asked: %s, %v", short(s), m, short(got), ok, short(want), is)
	}
	if ok && !impl.GoodSide(got) {
		t.Fatalf("TakeMail(%s, %+v) = %s, which is not good", short(s), m, short(got))
	}
	return got
}

func takenAll(t *testing.T, s impl.Side, mails ...impl.Mail) impl.Side {
	t.Helper()
	for _, m := range mails {
		s = taken(t, s, m)
	}
	return s
}

// leaves asks that a mail is taken without a change.
func leaves(t *testing.T, s impl.Side, m impl.Mail) {
	t.Helper()
	if got := taken(t, s, m); !sameSide(got, s) {
		t.Errorf("TakeMail(%s, %+v) = %s", short(s), m, short(got))
	}
}

// checkPush asks for a push, and holds it against the model's and against what is written out.
func checkPush(t *testing.T, s impl.Side, x impl.Snapshot, lost []bool, rounds int, want impl.Side, sent int, ok bool) {
	t.Helper()
	got, n, is := impl.PushOver(s, x, lost, rounds)
	if !sameSide(got, want) || n != sent || is != ok {
		t.Errorf("PushOver(%s, %s, %s, %v) = %s, %v, %v; asked: %s, %v, %v", short(s), short(x), short(lost), rounds, short(got), n, is, short(want), sent, ok)
	}
	if model, k, of := modelPush(s, x, lost, rounds); !sameSide(model, want) || k != sent || of != ok {
		t.Errorf("the model of PushOver(%s, %s, %s, %v) tells %s, %v, %v", short(s), short(x), short(lost), rounds, short(model), k, of)
	}
}

// checkSide asks all functions of one side; good is what the document says of it.
func checkSide(t *testing.T, s impl.Side, good bool) {
	t.Helper()
	if got := modelGoodSide(s); got != good {
		t.Errorf("the model tells %v of %s", got, short(s))
	}
	if got := impl.GoodSide(s); got != good {
		t.Errorf("GoodSide(%s) = %v", short(s), got)
	}
	missing, ok := impl.MissingIn(s)
	if want, _ := modelMissing(s); ok != good || !slices.Equal(missing, want) {
		t.Errorf("MissingIn(%s) = %v, %v", short(s), missing, ok)
	}
	crashed, ok := impl.CrashSide(s)
	if want, _ := modelCrash(s); ok != good || !sameSide(crashed, want) {
		t.Errorf("CrashSide(%s) = %s, %v", short(s), short(crashed), ok)
	}
	for _, m := range append(slices.Clone(pushedMails), impl.Mail{}, impl.Mail{Kind: 1, Version: 100000, Number: 2}) {
		after, ok := impl.TakeMail(s, m)
		if want, _ := modelTake(s, m); ok != good || !sameSide(after, want) {
			t.Errorf("TakeMail(%s, %+v) = %s, %v", short(s), m, short(after), ok)
		}
	}
	for _, rounds := range []int{0, 1, 3} {
		after, sent, ok := impl.PushOver(s, pushed, []bool{false, true}, rounds)
		want, n, is := modelPush(s, pushed, []bool{false, true}, rounds)
		if ok != is || sent != n || !sameSide(after, want) || !good && (ok || sent != 0 || !sameSide(after, impl.Side{})) {
			t.Errorf("PushOver(%s, .., %v) = %s, %v, %v", short(s), rounds, short(after), sent, ok)
		}
	}
}

// Each answer is written out here, from the document's words alone.
func TestPushOrdinary(t *testing.T) {
	mails, ok := impl.MailsOf(pushed)
	if !ok || !slices.Equal(mails, pushedMails) {
		t.Fatal(mails, ok)
	}
	old := snapshotOf(3, rulesNumbered(1), 2)
	first, second, serial := pushed.Policy[0], pushed.Policy[1], 7
	s := impl.Side{Force: old}
	for i, want := range []impl.Side{
		sideWith(old, 5, nil, nil, nil),
		sideWith(old, 5, first, nil, nil),
		sideWith(old, 5, first, second, nil),
		sideWith(old, 5, first, second, serial),
		{Force: pushed},
	} {
		if s, ok = impl.TakeMail(s, mails[i]); !ok || !sameSide(s, want) {
			t.Fatalf("behind %+v: %+v, %v", mails[i], s, ok)
		}
	}
	for _, m := range mails {
		leaves(t, s, m)
	}
	part := sideWith(old, 5, nil, second, nil)
	if missing, ok := impl.MissingIn(part); !ok || !slices.Equal(missing, []int{0, 2}) {
		t.Error(missing, ok)
	}
	if crashed, ok := impl.CrashSide(part); !ok || !sameSide(crashed, impl.Side{Force: old}) {
		t.Error(crashed, ok)
	}
	checkPush(t, part, pushed, nil, 1, impl.Side{Force: pushed}, 4, true)
	checkPush(t, impl.Side{Force: old}, pushed, nil, 1, impl.Side{Force: pushed}, 5, true)
	checkPush(t, impl.Side{Force: pushed}, old, nil, 1, impl.Side{Force: pushed}, 0, true)
}

func TestMailsOfEdges(t *testing.T) {
	for _, n := range []int{1, 2, 99999, 100000} {
		mails, ok := impl.MailsOf(impl.Snapshot{Number: n})
		if !ok || !slices.Equal(mails, []impl.Mail{{Kind: 1, Version: n}, {Kind: 4, Version: n}}) {
			t.Error(n, mails, ok)
		}
	}
	mails, ok := impl.MailsOf(snapshotOf(9, nil, 4, 100000))
	if !ok || !slices.Equal(mails, []impl.Mail{{Kind: 1, Version: 9, Number: 2}, {Kind: 3, Version: 9, Serial: 4}, {Kind: 3, Version: 9, Number: 1, Serial: 100000}, {Kind: 4, Version: 9, Number: 2}}) {
		t.Error(mails, ok)
	}
	mails, ok = impl.MailsOf(snapshotOf(9, rulesNumbered(3)))
	if !ok || !slices.Equal(mails, []impl.Mail{{Kind: 1, Version: 9, Number: 1}, {Kind: 2, Version: 9, Rule: ruleNumbered(3)}, {Kind: 4, Version: 9, Number: 1}}) {
		t.Error(mails, ok)
	}
	full := fullSnapshot(100000)
	mails, ok = impl.MailsOf(full)
	want, _ := modelMails(full)
	if !ok || len(mails) != 232 || !slices.Equal(mails, want) || mails[0].Number != 230 || mails[30].Kind != 2 || mails[31].Kind != 3 || mails[31].Number != 30 || mails[231].Number != 230 {
		t.Error(short(mails), ok)
	}
}

func TestMailsOfWhatIsNotGood(t *testing.T) {
	for _, x := range notSnapshots() {
		if mails, ok := impl.MailsOf(x); ok || len(mails) != 0 {
			t.Errorf("MailsOf(%s) = %s, %v", short(x), short(mails), ok)
		}
		checkSide(t, impl.Side{Force: x}, false)
		for _, s := range []impl.Side{{}, {Force: pushed}, sideWith(nothing, 5, 7, nil)} {
			for _, rounds := range []int{0, 1, 50} {
				checkPush(t, s, x, nil, rounds, impl.Side{}, 0, false)
			}
		}
	}
	// Nothing is in force at a zero side, but nothing is no version to push.
	checkPush(t, impl.Side{}, nothing, nil, 1, impl.Side{}, 0, false)
	checkPush(t, impl.Side{Force: pushed}, nothing, nil, 1, impl.Side{}, 0, false)
}

// notSnapshots are wrong in one part each.
func notSnapshots() []impl.Snapshot {
	return []impl.Snapshot{
		snapshotOf(0, rulesNumbered(1)),
		snapshotOf(0, nil, 1),
		snapshotOf(-1, nil),
		snapshotOf(100001, nil),
		snapshotOf(math.MinInt, rulesNumbered(1), 1),
		snapshotOf(math.MaxInt, rulesNumbered(1), 1),
		snapshotOf(4, rulesNumbered(2, 1), 1),
		snapshotOf(4, rulesNumbered(1, 1), 1),
		snapshotOf(4, make([]impl.Rule, 1), 1),
		snapshotOf(4, rulesNumbered(upFrom(0, 31)...), 1),
		snapshotOf(4, rulesNumbered(1), 2, 1),
		snapshotOf(4, rulesNumbered(1), 1, 1),
		snapshotOf(4, rulesNumbered(1), 0, 1),
		snapshotOf(4, rulesNumbered(1), 1, 100001),
		snapshotOf(4, rulesNumbered(1), upFrom(1, 201)...),
	}
}

func TestSideComing(t *testing.T) {
	checkSide(t, impl.Side{}, true)
	checkSide(t, impl.Side{Force: impl.Snapshot{Policy: []impl.Rule{}, Revoked: []int{}}, Rules: []impl.Rule{}, Has: []bool{}, Serials: []int{}}, true)
	checkSide(t, impl.Side{Force: pushed}, true)
	checkSide(t, impl.Side{Force: fullSnapshot(100000)}, true)
	for _, c := range []struct {
		force  int
		coming int
		good   bool
	}{
		{0, math.MinInt, false}, {0, -1, false}, {0, 1, true}, {0, 2, true}, {0, 99999, true}, {0, 100000, true}, {0, 100001, false}, {0, math.MaxInt, false},
		{3, math.MinInt, false}, {3, -1, false}, {3, 1, false}, {3, 2, false}, {3, 3, false}, {3, 4, true}, {3, 5, true}, {3, 100000, true}, {3, 100001, false},
		{99999, 99998, false}, {99999, 99999, false}, {99999, 100000, true}, {99999, 100001, false},
		{100000, 1, false}, {100000, 99999, false}, {100000, 100000, false}, {100000, 100001, false}, {100000, math.MaxInt, false},
	} {
		force := nothing
		if c.force > 0 {
			force = snapshotOf(c.force, rulesNumbered(1), 2)
		}
		checkSide(t, sideWith(force, c.coming), c.good)
		checkSide(t, sideWith(force, c.coming, nil, ruleNumbered(4), 9), c.good)
	}
	// Where nothing is coming there are no places, not even empty ones.
	for _, force := range []impl.Snapshot{nothing, pushed} {
		checkSide(t, sideWith(force, 0), true)
		checkSide(t, sideWith(force, 0, nil), false)
		checkSide(t, sideWith(force, 0, 7), false)
		checkSide(t, sideWith(force, 0, ruleNumbered(1)), false)
		checkSide(t, impl.Side{Force: force, Rules: make([]impl.Rule, 1)}, false)
		checkSide(t, impl.Side{Force: force, Has: make([]bool, 1)}, false)
		checkSide(t, impl.Side{Force: force, Serials: make([]int, 1)}, false)
	}
}

func TestSideLengths(t *testing.T) {
	for _, c := range []struct{ rules, has, serials int }{
		{0, 0, 0}, {1, 1, 1}, {2, 2, 2}, {230, 230, 230}, {231, 231, 231}, {1000, 1000, 1000},
		{1, 0, 0}, {0, 1, 0}, {0, 0, 1}, {1, 1, 0}, {1, 0, 1}, {0, 1, 1},
		{3, 2, 2}, {2, 3, 2}, {2, 2, 3}, {2, 3, 3}, {3, 2, 3}, {3, 3, 2},
		{231, 230, 230}, {230, 231, 230}, {230, 230, 231}, {229, 230, 230}, {230, 229, 230}, {230, 230, 229},
	} {
		s := impl.Side{Coming: 5, Rules: make([]impl.Rule, c.rules), Has: make([]bool, c.has), Serials: make([]int, c.serials)}
		checkSide(t, s, c.rules == c.has && c.has == c.serials && c.has <= 230)
	}
	all, many := make([]any, 230), make([]any, 231)
	for i := range many {
		many[i] = i + 1
		if i%2 == 0 {
			many[i] = ruleNumbered(i)
		}
	}
	copy(all, many)
	checkSide(t, sideWith(pushed, 6, all...), true)
	checkSide(t, sideWith(pushed, 6, many...), false)
}

func TestSidePlaces(t *testing.T) {
	good, none, bad := ruleNumbered(1), impl.Rule{}, impl.Rule{Who: "a/b", Method: "post", Path: "/"}
	for _, c := range []struct {
		has    bool
		rule   impl.Rule
		serial int
		good   bool
	}{
		{false, none, 0, true},
		{false, good, 0, false},
		{false, bad, 0, false},
		{false, impl.Rule{Deny: true}, 0, false},
		{false, none, 1, false},
		{false, none, -1, false},
		{false, good, 1, false},
		{true, none, 0, false},
		{true, good, 0, true},
		{true, impl.Rule{Deny: true, Who: "*/*", Method: "*", Path: "/**"}, 0, true},
		{true, bad, 0, false},
		{true, impl.Rule{Deny: true}, 0, false},
		{true, impl.Rule{Who: "a", Method: "get", Path: "/"}, 0, false},
		{true, impl.Rule{Who: "a/b", Method: "get", Path: "/**/a"}, 0, false},
		{true, none, 1, true},
		{true, none, 100000, true},
		{true, none, 100001, false},
		{true, none, -1, false},
		{true, none, math.MinInt, false},
		{true, none, math.MaxInt, false},
		{true, good, 1, false},
		{true, good, 100001, false},
		{true, good, -1, false},
		{true, bad, 1, false},
		{true, impl.Rule{Deny: true}, 1, false},
	} {
		// At the first place, at the last, and alone.
		for _, at := range []int{0, 2} {
			s := sideWith(pushed, 6, ruleNumbered(7), 8, nil)
			s.Has[at], s.Rules[at], s.Serials[at] = c.has, c.rule, c.serial
			checkSide(t, s, c.good)
		}
		checkSide(t, impl.Side{Coming: 1, Rules: []impl.Rule{c.rule}, Has: []bool{c.has}, Serials: []int{c.serial}}, c.good)
	}
}

// sidesToTake are of each kind: nothing at all, something in force, something coming, with no place, with few and with many.
func sidesToTake() []impl.Side {
	return []impl.Side{
		{},
		{Force: snapshotOf(3, rulesNumbered(1), 2)},
		sideWith(snapshotOf(3, rulesNumbered(1), 2), 5, ruleNumbered(1), nil, nil),
		sideWith(snapshotOf(3, nil), 5, ruleNumbered(2), 4, ruleNumbered(1)),
		sideWith(nothing, 100000, nil),
		sideWith(nothing, 5),
		{Force: snapshotOf(100000, nil)},
		sideWith(nothing, 4, make([]any, 230)...),
	}
}

// Every side, kind, version and number that the document sets apart, with each rule and serial, good or not: as the model says.
func TestTakeAllEdges(t *testing.T) {
	whats := []struct {
		rule   impl.Rule
		serial int
	}{
		{}, {rule: ruleNumbered(9)}, {serial: 1}, {serial: 100000}, {serial: 100001}, {serial: -1},
		{rule: ruleNumbered(9), serial: 6}, {rule: impl.Rule{Who: "a/b", Method: "", Path: "/"}, serial: 6}, {rule: ruleNumbered(9), serial: -6},
	}
	for _, s := range sidesToTake() {
		for _, kind := range []int{math.MinInt, -1, 0, 1, 2, 3, 4, 5, math.MaxInt} {
			for _, version := range []int{math.MinInt, -1, 0, 1, 2, 3, 4, 5, 6, 99999, 100000, 100001, math.MaxInt} {
				for _, number := range []int{math.MinInt, -1, 0, 1, 2, 3, 4, 229, 230, 231, math.MaxInt} {
					if len(s.Has) > 9 && version != 4 && version != 5 {
						continue
					}
					for _, what := range whats {
						taken(t, s, impl.Mail{Kind: kind, Version: version, Number: number, Rule: what.rule, Serial: what.serial})
					}
				}
			}
		}
	}
}

func TestTakeBegin(t *testing.T) {
	old := snapshotOf(3, rulesNumbered(1), 2)
	part := sideWith(old, 5, ruleNumbered(4), nil)
	for _, n := range []int{0, 1, 2, 229, 230} {
		empty := make([]any, n)
		for _, s := range []impl.Side{{Force: old}, part} {
			if got := taken(t, s, impl.Mail{Kind: 1, Version: 6, Number: n}); !sameSide(got, sideWith(old, 6, empty...)) {
				t.Errorf("%v places: %s", n, short(got))
			}
			if got := taken(t, s, impl.Mail{Kind: 1, Version: 100000, Number: n}); !sameSide(got, sideWith(old, 100000, empty...)) {
				t.Errorf("%v places: %s", n, short(got))
			}
			for _, version := range []int{math.MinInt, -1, 0, 1, 2, 3, 100001, math.MaxInt} {
				leaves(t, s, impl.Mail{Kind: 1, Version: version, Number: n})
			}
		}
		if got := taken(t, impl.Side{Force: old}, impl.Mail{Kind: 1, Version: 4, Number: n}); !sameSide(got, sideWith(old, 4, empty...)) {
			t.Errorf("%v places: %s", n, short(got))
		}
		leaves(t, part, impl.Mail{Kind: 1, Version: 4, Number: n})
		leaves(t, part, impl.Mail{Kind: 1, Version: 5, Number: n})
	}
	for _, n := range []int{math.MinInt, -1, 231, 232, math.MaxInt} {
		for _, s := range []impl.Side{{}, {Force: old}, part} {
			leaves(t, s, impl.Mail{Kind: 1, Version: 6, Number: n})
		}
	}
}

func TestTakePlaces(t *testing.T) {
	old := snapshotOf(3, rulesNumbered(1), 2)
	rule := ruleNumbered(9)
	for _, places := range []int{1, 2, 3, 230} {
		s := sideWith(old, 5, make([]any, places)...)
		for _, at := range []int{0, places - 1} {
			for _, serial := range []int{1, 2, 100000} {
				want := make([]any, places)
				want[at] = serial
				if got := taken(t, s, impl.Mail{Kind: 3, Version: 5, Number: at, Serial: serial}); !sameSide(got, sideWith(old, 5, want...)) {
					t.Errorf("%v at %v: %s", serial, at, short(got))
				}
			}
			want := make([]any, places)
			want[at] = rule
			got := taken(t, s, impl.Mail{Kind: 2, Version: 5, Number: at, Rule: rule})
			if !sameSide(got, sideWith(old, 5, want...)) {
				t.Errorf("at %v: %s", at, short(got))
			}
			// What is there stays, whatever comes behind it.
			leaves(t, got, impl.Mail{Kind: 2, Version: 5, Number: at, Rule: rule})
			leaves(t, got, impl.Mail{Kind: 2, Version: 5, Number: at, Rule: ruleNumbered(8)})
			leaves(t, got, impl.Mail{Kind: 3, Version: 5, Number: at, Serial: 8})
			for _, serial := range []int{math.MinInt, -1, 0, 100001, math.MaxInt} {
				leaves(t, s, impl.Mail{Kind: 3, Version: 5, Number: at, Serial: serial, Rule: rule})
			}
			for _, r := range oddRules() {
				if !modelGoodRule(r) {
					leaves(t, s, impl.Mail{Kind: 2, Version: 5, Number: at, Rule: r, Serial: 4})
				}
			}
			for _, version := range []int{math.MinInt, -1, 0, 2, 3, 4, 6, 100000, 100001, math.MaxInt} {
				leaves(t, s, impl.Mail{Kind: 2, Version: version, Number: at, Rule: rule})
				leaves(t, s, impl.Mail{Kind: 3, Version: version, Number: at, Serial: 4})
			}
		}
		for _, at := range []int{math.MinInt, -1, places, places + 1, 231, math.MaxInt} {
			leaves(t, s, impl.Mail{Kind: 2, Version: 5, Number: at, Rule: rule})
			leaves(t, s, impl.Mail{Kind: 3, Version: 5, Number: at, Serial: 4})
		}
	}
	// Of a serial that is there a rule makes nothing either.
	leaves(t, sideWith(old, 5, 8), impl.Mail{Kind: 2, Version: 5, Rule: rule})
	leaves(t, sideWith(old, 5, 8), impl.Mail{Kind: 3, Version: 5, Serial: 9})
	leaves(t, sideWith(old, 5), impl.Mail{Kind: 3, Version: 5, Serial: 9})
	leaves(t, impl.Side{Force: old}, impl.Mail{Kind: 2, Version: 5, Rule: rule})
	leaves(t, impl.Side{}, impl.Mail{Kind: 3, Version: 1, Serial: 9})
	leaves(t, impl.Side{}, impl.Mail{Kind: 3, Serial: 9})
}

// A mail counts by what its kind names; a field that another kind has is not asked for and not kept.
func TestTakeFieldsOfOtherKinds(t *testing.T) {
	stray := impl.Rule{Who: "no name", Method: "post", Path: "x"}
	s := taken(t, impl.Side{}, impl.Mail{Kind: 1, Version: 4, Number: 2, Rule: stray, Serial: -4})
	s = taken(t, s, impl.Mail{Kind: 2, Version: 4, Number: 0, Rule: ruleNumbered(1), Serial: 77})
	s = taken(t, s, impl.Mail{Kind: 3, Version: 4, Number: 1, Rule: ruleNumbered(2), Serial: 6})
	if !sameSide(s, sideWith(nothing, 4, ruleNumbered(1), 6)) {
		t.Error(s)
	}
	s = taken(t, s, impl.Mail{Kind: 4, Version: 4, Number: 2, Rule: stray, Serial: -4})
	if !sameSide(s, impl.Side{Force: snapshotOf(4, rulesNumbered(1), 6)}) {
		t.Error(s)
	}
}

func TestTakeCommit(t *testing.T) {
	old := snapshotOf(3, rulesNumbered(1), 2)
	commit := func(n int) impl.Mail { return impl.Mail{Kind: 4, Version: 5, Number: n} }
	for _, c := range []struct {
		places []any
		policy []int
		serial []int
	}{
		{nil, nil, nil},
		{[]any{7}, nil, []int{7}},
		{[]any{ruleNumbered(7)}, []int{7}, nil},
		{[]any{ruleNumbered(3), ruleNumbered(1), ruleNumbered(2)}, []int{1, 2, 3}, nil},
		{[]any{ruleNumbered(3), ruleNumbered(1), ruleNumbered(3), ruleNumbered(3)}, []int{1, 3}, nil},
		{[]any{9, 1, 100000, 9, 1}, nil, []int{1, 9, 100000}},
		{[]any{9, ruleNumbered(2), 4, ruleNumbered(1), 9, ruleNumbered(2)}, []int{1, 2}, []int{4, 9}},
	} {
		s := sideWith(old, 5, c.places...)
		n := len(c.places)
		if got := taken(t, s, commit(n)); !sameSide(got, impl.Side{Force: snapshotOf(5, rulesNumbered(c.policy...), c.serial...)}) {
			t.Errorf("%v: %s", c.places, short(got))
		}
		for _, other := range []int{math.MinInt, -1, n - 1, n + 1, 230, 231, math.MaxInt} {
			leaves(t, s, commit(other))
		}
		for _, version := range []int{math.MinInt, -1, 0, 2, 3, 4, 6, 100000, 100001, math.MaxInt} {
			leaves(t, s, impl.Mail{Kind: 4, Version: version, Number: n})
		}
		for at := range c.places {
			lacks := slices.Clone(c.places)
			lacks[at] = nil
			for k := range n + 1 {
				leaves(t, sideWith(old, 5, lacks...), commit(k))
			}
		}
	}
	leaves(t, impl.Side{Force: old}, commit(0))
	leaves(t, impl.Side{}, commit(0))
	leaves(t, impl.Side{}, impl.Mail{Kind: 4})
}

// What came may be more than a snapshot holds: then the commit does nothing, and what came stays.
func TestTakeCommitLimits(t *testing.T) {
	rules := func(l ...int) []any { return placesOf(impl.Snapshot{Policy: rulesNumbered(l...)}) }
	serials := func(l ...int) []any { return placesOf(impl.Snapshot{Revoked: l}) }
	for _, c := range []struct {
		what   string
		places []any
		fits   bool
	}{
		{"30 rules", rules(upFrom(0, 30)...), true},
		{"30 rules alike", rules(slices.Repeat([]int{6}, 30)...), true},
		{"31 rules", rules(upFrom(0, 31)...), false},
		{"31 rules, of which two are alike", rules(append(upFrom(0, 30), 4)...), false},
		{"31 rules alike", rules(slices.Repeat([]int{6}, 31)...), false},
		{"230 rules", rules(upFrom(0, 230)...), false},
		{"200 serials", serials(upFrom(1, 200)...), true},
		{"201 serials", serials(upFrom(1, 201)...), false},
		{"201 serials, of which two are alike", serials(append(upFrom(1, 200), 4)...), true},
		{"230 serials, of which 200 are unlike", serials(append(upFrom(1, 200), upFrom(50, 30)...)...), true},
		{"230 serials, of which 201 are unlike", serials(append(upFrom(1, 201), upFrom(50, 29)...)...), false},
		{"230 serials alike", serials(slices.Repeat([]int{6}, 230)...), true},
		{"230 serials", serials(upFrom(1, 230)...), false},
		{"30 rules and 200 serials", append(serials(upFrom(1, 200)...), rules(upFrom(0, 30)...)...), true},
		{"29 rules and 201 serials", append(rules(upFrom(0, 29)...), serials(upFrom(1, 201)...)...), false},
		{"31 rules and 199 serials", append(rules(upFrom(0, 31)...), serials(upFrom(1, 199)...)...), false},
	} {
		s := sideWith(snapshotOf(3, rulesNumbered(1), 2), 5, c.places...)
		checkSide(t, s, true)
		got := taken(t, s, impl.Mail{Kind: 4, Version: 5, Number: len(c.places)})
		if (got.Force.Number == 5) != c.fits || !c.fits && !sameSide(got, s) || c.fits && (got.Coming != 0 || len(got.Has) != 0) {
			t.Errorf("%s: %s", c.what, short(got))
		}
	}
}

func TestTakeOfASideThatIsNotGood(t *testing.T) {
	for _, s := range []impl.Side{
		{Force: snapshotOf(3, rulesNumbered(2, 1))},
		{Force: impl.Snapshot{Revoked: []int{1}}},
		sideWith(nothing, 0, nil),
		sideWith(nothing, -1),
		sideWith(nothing, 100001),
		sideWith(pushed, 5),
		{Coming: 4, Has: []bool{false}},
		sideWith(nothing, 4, 100001),
	} {
		checkSide(t, s, false)
		for _, m := range append(slices.Clone(pushedMails), impl.Mail{Kind: 1, Version: 9}, impl.Mail{Kind: 4, Version: 4, Number: 1}, impl.Mail{}) {
			if got, ok := impl.TakeMail(s, m); ok || !sameSide(got, impl.Side{}) {
				t.Errorf("TakeMail(%s, %+v) = %s, %v", short(s), m, short(got), ok)
			}
		}
	}
}

func TestMissing(t *testing.T) {
	for _, c := range []struct {
		places []any
		want   []int
	}{
		{nil, nil},
		{[]any{nil}, []int{0}},
		{[]any{5}, nil},
		{[]any{nil, nil, nil}, []int{0, 1, 2}},
		{[]any{5, nil, ruleNumbered(1), nil}, []int{1, 3}},
		{[]any{nil, 5, 5, nil, ruleNumbered(1)}, []int{0, 3}},
		{make([]any, 230), upFrom(0, 230)},
	} {
		got, ok := impl.MissingIn(sideWith(pushed, 6, c.places...))
		if !ok || !slices.Equal(got, c.want) {
			t.Error(c.places, got, ok)
		}
	}
	for _, s := range []impl.Side{{}, {Force: pushed}} {
		if got, ok := impl.MissingIn(s); !ok || len(got) != 0 {
			t.Error(s, got, ok)
		}
	}
}

func TestCrash(t *testing.T) {
	for _, force := range []impl.Snapshot{nothing, pushed, fullSnapshot(7)} {
		for _, s := range []impl.Side{{Force: force}, sideWith(force, 8), sideWith(force, 100000, ruleNumbered(1), nil, 4)} {
			got, ok := impl.CrashSide(s)
			if !ok || !sameSide(got, impl.Side{Force: force}) {
				t.Errorf("CrashSide(%s) = %s, %v", short(s), short(got), ok)
			}
		}
	}
}

func TestPushRounds(t *testing.T) {
	all := slices.Repeat([]bool{true}, 250)
	for _, rounds := range []int{math.MinInt, -1, 51, 52, math.MaxInt} {
		checkPush(t, impl.Side{}, pushed, nil, rounds, impl.Side{}, 0, false)
		checkPush(t, impl.Side{Force: pushed}, pushed, nil, rounds, impl.Side{}, 0, false)
	}
	for _, rounds := range []int{0, 1, 2, 3, 49, 50} {
		for _, force := range []impl.Snapshot{nothing, snapshotOf(4, rulesNumbered(1), 2)} {
			s := impl.Side{Force: force}
			// All is lost in each round, of each the same.
			checkPush(t, s, pushed, all[:5*rounds], rounds, s, 5*rounds, false)
			if rounds == 0 {
				checkPush(t, s, pushed, nil, 0, s, 0, false)
				continue
			}
			checkPush(t, s, pushed, nil, rounds, impl.Side{Force: pushed}, 5, true)
			// Only the last round loses nothing.
			checkPush(t, s, pushed, all[:5*(rounds-1)], rounds, impl.Side{Force: pushed}, 5*rounds, true)
		}
	}
}

func TestPushNothingAndMuch(t *testing.T) {
	empty := impl.Snapshot{Number: 1}
	checkPush(t, impl.Side{}, empty, nil, 0, impl.Side{}, 0, false)
	checkPush(t, impl.Side{}, empty, nil, 1, impl.Side{Force: empty}, 2, true)
	checkPush(t, impl.Side{}, empty, []bool{true}, 1, impl.Side{}, 2, false)
	checkPush(t, impl.Side{}, empty, []bool{true}, 2, impl.Side{Force: empty}, 4, true)
	checkPush(t, impl.Side{}, empty, []bool{false, true}, 1, sideWith(nothing, 1), 2, false)
	checkPush(t, impl.Side{}, empty, []bool{false, true, true, false}, 2, impl.Side{Force: empty}, 4, true)
	full := fullSnapshot(100000)
	checkPush(t, impl.Side{Force: fullSnapshot(99999)}, full, nil, 1, impl.Side{Force: full}, 232, true)
	checkPush(t, sideWith(fullSnapshot(7), 9, make([]any, 230)...), full, nil, 1, impl.Side{Force: full}, 232, true)
	checkPush(t, sideWith(nothing, 100000, placesOf(full)...), full, nil, 1, impl.Side{Force: full}, 2, true)
}

func TestPushLostLimits(t *testing.T) {
	for _, c := range []struct {
		lost int
		good bool
	}{{0, true}, {1, true}, {1999, true}, {2000, true}, {2001, false}, {2002, false}, {100000, false}} {
		got, sent, ok := impl.PushOver(impl.Side{}, pushed, make([]bool, c.lost), 1)
		if ok != c.good || c.good && (sent != 5 || !sameSnapshot(got.Force, pushed)) || !c.good && (sent != 0 || !sameSide(got, impl.Side{})) {
			t.Error(c.lost, got, sent, ok)
		}
		checkPush(t, impl.Side{Force: pushed}, pushed, make([]bool, c.lost), 0, map[bool]impl.Side{true: {Force: pushed}}[c.good], 0, c.good)
	}
	// 38 places make 40 mails a round: 50 rounds are 2000 mails, of which the last one counts.
	x := snapshotOf(9, rulesNumbered(1), upFrom(1, 37)...)
	lost := slices.Repeat([]bool{true}, 2000)
	checkPush(t, impl.Side{}, x, lost, 50, impl.Side{}, 2000, false)
	checkPush(t, impl.Side{}, x, append(slices.Clone(lost), true), 50, impl.Side{}, 0, false)
	checkPush(t, impl.Side{}, x, lost[:1960], 50, impl.Side{Force: x}, 2000, true)
	checkPush(t, impl.Side{}, x, lost[:1961], 50, impl.Side{}, 2000, false)
	last := sideWith(nothing, 9, placesOf(x)...)
	checkPush(t, impl.Side{}, x, slices.Concat(lost[:1960], make([]bool, 39), lost[:1]), 50, last, 2000, false)
}

// Which mail the next of lost stands for: in order, from behind in odd rounds, once in every third round, and of those alone that lack.
func TestPushOrder(t *testing.T) {
	first, second := pushed.Policy[0], pushed.Policy[1]
	none, all := make([]bool, 5), slices.Repeat([]bool{true}, 50)
	at := func(places ...int) []bool {
		l := slices.Clone(none)
		for _, k := range places {
			l[k] = true
		}
		return l
	}
	full := []any{first, second, 7}
	but := func(k int) impl.Side {
		places := slices.Clone(full)
		places[k] = nil
		return sideWith(nothing, 5, places...)
	}
	done := impl.Side{Force: pushed}
	for round := range 8 {
		before := all[:5*round]
		sent := 5*round + 5
		for k := range 3 {
			// The k-th mail between is lost: the k-th place lacks, or the k-th from behind.
			place := k
			if round%2 == 1 {
				place = 2 - k
			}
			lost := slices.Concat(before, at(k+1))
			checkPush(t, impl.Side{}, pushed, lost, round+1, but(place), sent, false)
			checkPush(t, impl.Side{}, pushed, lost, round+2, done, sent+3, true)
			// In the round behind, one mail is between the two others.
			checkPush(t, impl.Side{}, pushed, append(lost, true, false, false), round+2, done, sent+3, true)
			checkPush(t, impl.Side{}, pushed, append(lost, false, true, false), round+2, but(place), sent+3, false)
			checkPush(t, impl.Side{}, pushed, append(lost, false, false, true), round+2, sideWith(nothing, 5, full...), sent+3, false)
			checkPush(t, impl.Side{}, pushed, append(lost, false, false, true), round+3, done, sent+5, true)
		}
		checkPush(t, impl.Side{}, pushed, slices.Concat(before, none), round+1, done, sent, true)
		checkPush(t, impl.Side{}, pushed, slices.Concat(before, at(4)), round+1, sideWith(nothing, 5, full...), sent, false)
		// Without its begin all that comes behind it is for nothing.
		checkPush(t, impl.Side{}, pushed, slices.Concat(before, at(0)), round+1, impl.Side{}, sent, false)
		checkPush(t, impl.Side{}, pushed, slices.Concat(before, at(0)), round+2, done, sent+5, true)
		checkPush(t, impl.Side{}, pushed, slices.Concat(before, at(1, 2, 3)), round+1, sideWith(nothing, 5, nil, nil, nil), sent, false)
	}
	checkPush(t, impl.Side{}, pushed, []bool{false, true, true}, 1, sideWith(nothing, 5, nil, nil, 7), 5, false)
	checkPush(t, impl.Side{}, pushed, []bool{false, true, true}, 2, done, 9, true)
	// Round 1 sends the places 1 and 0, in this order.
	checkPush(t, impl.Side{}, pushed, []bool{false, true, true, false, false, false, true, false}, 2, sideWith(nothing, 5, first, nil, 7), 9, false)
	// Round 2 sends the places 0 and 1, each once, though each is taken twice.
	checkPush(t, impl.Side{}, pushed, []bool{false, true, true, false, false, false, true, true, false, false, true, false, true}, 3, sideWith(nothing, 5, nil, second, 7), 13, false)
}

func TestPushToASideThatHasIt(t *testing.T) {
	later := snapshotOf(6, rulesNumbered(1), 2)
	other := snapshotOf(5, rulesNumbered(9))
	for _, rounds := range []int{0, 1, 50} {
		for _, s := range []impl.Side{
			{Force: pushed}, {Force: other}, {Force: later}, {Force: snapshotOf(100000, nil)},
			sideWith(pushed, 6, nil, 4), sideWith(other, 100000), sideWith(later, 7, ruleNumbered(1)),
		} {
			checkPush(t, s, pushed, nil, rounds, s, 0, true)
			checkPush(t, s, pushed, slices.Repeat([]bool{true}, 2000), rounds, s, 0, true)
		}
	}
}

func TestPushToASideToWhichSomethingComes(t *testing.T) {
	old := snapshotOf(3, rulesNumbered(1), 2)
	first, second := pushed.Policy[0], pushed.Policy[1]
	done := impl.Side{Force: pushed}
	// An earlier version gives way, however much of it is there.
	for _, places := range [][]any{nil, {nil, nil, nil}, {first, second, 7}, {4}, make([]any, 230)} {
		s := sideWith(old, 4, places...)
		checkPush(t, s, pushed, nil, 1, done, 5, true)
		checkPush(t, s, pushed, []bool{true}, 1, s, 5, false)
		checkPush(t, s, pushed, []bool{true}, 2, done, 10, true)
		checkPush(t, s, pushed, []bool{false, true}, 1, sideWith(old, 5, nil, second, 7), 5, false)
	}
	// A later one does not: all is sent in each round, and for nothing.
	for _, places := range [][]any{nil, {nil, nil, nil}, {first, second, 7}, {4}} {
		for _, rounds := range []int{0, 1, 3, 50} {
			s := sideWith(old, 6, places...)
			checkPush(t, s, pushed, nil, rounds, s, 5*rounds, false)
		}
	}
	// Of this one just what lacks is sent; what is there stays, also if it is not this version's.
	checkPush(t, sideWith(old, 5, nil, nil, nil), pushed, nil, 1, done, 5, true)
	checkPush(t, sideWith(old, 5, first, nil, 7), pushed, nil, 1, done, 3, true)
	checkPush(t, sideWith(old, 5, first, second, 7), pushed, nil, 1, done, 2, true)
	checkPush(t, sideWith(old, 5, first, nil, 7), pushed, []bool{true, true, true}, 2, done, 6, true)
	checkPush(t, sideWith(old, 5, ruleNumbered(8), nil, 9), pushed, nil, 1, impl.Side{Force: snapshotOf(5, modelPlain([]impl.Rule{ruleNumbered(8), second}), 9)}, 3, true)
	checkPush(t, sideWith(old, 5, 8, nil, nil), pushed, nil, 1, impl.Side{Force: snapshotOf(5, []impl.Rule{second}, 7, 8)}, 4, true)
	// Where its places are not as many as this version's, it is never whole.
	for _, rounds := range []int{1, 2, 50} {
		checkPush(t, sideWith(old, 5, nil, nil), pushed, nil, rounds, sideWith(old, 5, first, second), 2*rounds+2, false)
		checkPush(t, sideWith(old, 5, nil, nil, nil, nil), pushed, nil, rounds, sideWith(old, 5, first, second, 7, nil), 2*rounds+3, false)
		checkPush(t, sideWith(old, 5), pushed, nil, rounds, sideWith(old, 5), 2*rounds, false)
		checkPush(t, sideWith(old, 5, first, second, 7, 8), pushed, nil, rounds, sideWith(old, 5, first, second, 7, 8), 2*rounds, false)
	}
}
