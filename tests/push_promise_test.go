package tests

import (
	"math/rand/v2"
	"slices"
	"testing"

	"loop.example/g00167/impl"
)

// The sixth promise in its own words, on the program's answers: a version that was not coming ahead is in force when it is whole, not before.

// wholeAt tells behind how many mails of a version it is whole: its begin came, behind that each place, behind those its commit. It knows of no side.
func wholeAt(mails []impl.Mail, version, places int) int {
	begun, came := false, map[int]bool{}
	for k, m := range mails {
		switch {
		case m.Version != version:
		case m.Kind == impl.MailBegin:
			begun = true
		case !begun:
		case m.Kind != impl.MailCommit:
			came[m.Number] = true
		case len(came) == places:
			return k + 1
		}
	}
	return len(mails) + 1
}

// comes hands mails to a side one by one, and asks behind each that just what is whole is in force; it tells whether x is so in the end.
func comes(t *testing.T, s impl.Side, x impl.Snapshot, mails []impl.Mail) bool {
	t.Helper()
	before, whole := s.Force, wholeAt(mails, x.Number, len(x.Policy)+len(x.Revoked))
	for k, m := range mails {
		var ok bool
		s, ok = impl.TakeMail(s, m)
		want := before
		if k+1 >= whole {
			want = x
		}
		if !ok || !sameSnapshot(s.Force, want) || k+1 >= whole && s.Coming != 0 {
			t.Fatalf("behind %v of %+v: %+v, %v", k+1, mails, s, ok)
		}
	}
	return whole <= len(mails)
}

// startsFor are sides to which version 5 is not coming, and which it may come to.
func startsFor() []impl.Side {
	old := snapshotOf(3, rulesNumbered(1), 2)
	return []impl.Side{{}, {Force: old}, sideWith(nothing, 4), sideWith(old, 4, ruleNumbered(1), 7), sideWith(old, 4, nil, nil, nil)}
}

// All ways in which up to six mails of a version with one rule and one serial may come: in order, turned about, twice, some never.
func TestInForceWhenItIsWhole(t *testing.T) {
	x := snapshotOf(5, rulesNumbered(4), 9)
	mails, ok := impl.MailsOf(x)
	if !ok || len(mails) != 4 {
		t.Fatal(mails, ok)
	}
	for _, s := range startsFor() {
		whole := 0
		lines := [][]impl.Mail{nil}
		for i := 0; i < len(lines); i++ {
			if comes(t, s, x, lines[i]) {
				whole++
			}
			if len(lines[i]) < 6 {
				for _, m := range mails {
					lines = append(lines, append(slices.Clone(lines[i]), m))
				}
			}
		}
		if whole < 50 {
			t.Errorf("only %v of %v came whole", whole, len(lines))
		}
	}
}

// ordersOf tells all orders of a list.
func ordersOf(l []impl.Mail) [][]impl.Mail {
	if len(l) == 0 {
		return [][]impl.Mail{nil}
	}
	var all [][]impl.Mail
	for i, m := range l {
		for _, rest := range ordersOf(slices.Delete(slices.Clone(l), i, i+1)) {
			all = append(all, append([]impl.Mail{m}, rest...))
		}
	}
	return all
}

// All orders of a version with four places, alone, and with the commit once more behind them.
func TestInForceInWhichOrderEver(t *testing.T) {
	x := snapshotOf(5, rulesNumbered(4, 6), 9, 10)
	mails, _ := impl.MailsOf(x)
	alone, again := 0, 0
	for _, line := range ordersOf(mails) {
		for _, s := range startsFor()[:2] {
			if comes(t, s, x, line) {
				alone++
			}
			if comes(t, s, x, append(slices.Clone(line), mails[5])) {
				again++
			}
		}
	}
	// Begin first, commit last: 24 orders; begin ahead of the four places, the commit anywhere, and once more at the end: 720 / 5.
	if alone != 2*24 || again != 2*144 {
		t.Error(alone, again)
	}
}

// Versions of any size, none, the limits met; some mails never, each some times, in any order.
func TestInForceOfAnySize(t *testing.T) {
	rnd := rand.New(rand.NewPCG(6, 1))
	rules := smallRules()
	whole := map[bool]int{}
	for round := range 600 {
		x := randomVersions(rnd, rules, 1+rnd.IntN(4))[0]
		switch round % 20 {
		case 0:
			x = snapshotOf(5, nil)
		case 1:
			x = fullSnapshot(5)
		}
		x.Number = 5
		mails, ok := impl.MailsOf(x)
		if !ok {
			t.Fatal(x)
		}
		line := slices.Clone(mails[1:])
		for range rnd.IntN(4) {
			line = append(line, mails[rnd.IntN(len(mails))])
		}
		rnd.Shuffle(len(line), func(i, j int) { line[i], line[j] = line[j], line[i] })
		at := rnd.IntN(1 + len(line)/4)
		line = slices.Insert(line, at, mails[0])
		if rnd.IntN(3) > 0 {
			line = append(line, append(slices.Clone(mails[1:]), mails[len(mails)-1])...)
		}
		if rnd.IntN(4) == 0 {
			never := line[rnd.IntN(len(line))]
			line = slices.DeleteFunc(line, func(m impl.Mail) bool { return m == never })
		}
		for _, s := range startsFor() {
			whole[comes(t, s, x, line)]++
		}
	}
	if whole[true] < 300 || whole[false] < 300 {
		t.Error(whole)
	}
}

// Mails of two versions mixed: the later one comes as if it were alone; the earlier one comes if it is whole ahead of the later one's begin.
func TestInForceOfTwoVersions(t *testing.T) {
	rnd := rand.New(rand.NewPCG(6, 2))
	a, b := snapshotOf(5, rulesNumbered(1, 2), 9), snapshotOf(6, rulesNumbered(2, 3), 9, 10)
	aMails, _ := impl.MailsOf(a)
	bMails, _ := impl.MailsOf(b)
	ended := map[string]int{}
	for round := range 6000 {
		var line []impl.Mail
		aLeft, bLeft := repeated(rnd, aMails), repeated(rnd, bMails)
		for len(aLeft)+len(bLeft) > 0 {
			if first := rnd.IntN(1 + round%6); len(aLeft) > 0 && (len(bLeft) == 0 || first > 0) {
				line, aLeft = append(line, aLeft[0]), aLeft[1:]
			} else {
				line, bLeft = append(line, bLeft[0]), bLeft[1:]
			}
		}
		bBegins := slices.Index(line, bMails[0])
		if bBegins < 0 {
			bBegins = len(line)
		}
		aWhole, bWhole := wholeAt(line[:bBegins], 5, 3), wholeAt(line, 6, 4)
		if aWhole > bBegins {
			aWhole = len(line) + 1
		}
		s := startsFor()[round%5]
		before := s.Force
		for k, m := range line {
			var ok bool
			s, ok = impl.TakeMail(s, m)
			want := before
			if k+1 >= aWhole {
				want = a
			}
			if k+1 >= bWhole {
				want = b
			}
			if !ok || !sameSnapshot(s.Force, want) {
				t.Fatalf("behind %v of %+v: %+v, %v", k+1, line, s, ok)
			}
		}
		switch {
		case aWhole <= len(line) && bWhole <= len(line):
			ended["both"]++
		case aWhole <= len(line):
			ended["the earlier one"]++
		case bWhole <= len(line):
			ended["the later one"]++
		default:
			ended["none"]++
		}
	}
	for _, what := range []string{"both", "the earlier one", "the later one", "none"} {
		if ended[what] < 100 {
			t.Error(what, ended)
		}
	}
}

// repeated tells mails that come twice, late or never, once in a while.
func repeated(rnd *rand.Rand, mails []impl.Mail) []impl.Mail {
	line := slices.Clone(mails)
	for range rnd.IntN(3) {
		i, k := rnd.IntN(len(line)), rnd.IntN(len(line))
		line[i], line[k] = line[k], line[i]
	}
	for range rnd.IntN(4) {
		line = slices.Insert(line, rnd.IntN(len(line)+1), line[rnd.IntN(len(line))])
	}
	if rnd.IntN(4) == 0 {
		i := rnd.IntN(len(line))
		line = slices.Delete(line, i, i+1)
	}
	if rnd.IntN(2) == 0 {
		line = append(line, mails[len(mails)-1])
	}
	return line
}

// Over a line that loses none, some and all a version is in force just where the push tells so, and otherwise what was in force is so still.
func TestPushedInForceWhenItIsWhole(t *testing.T) {
	rnd := rand.New(rand.NewPCG(6, 3))
	rules := smallRules()
	for _, c := range []struct{ oneOf, least, most int }{{0, 1000, 1000}, {1, 0, 0}, {2, 50, 950}, {3, 50, 950}, {8, 50, 990}} {
		done := 0
		for round := range 1000 {
			x := randomVersions(rnd, rules, 1)[0]
			x.Number = 5
			s := startsFor()[round%5]
			lost, rounds := randomLost(rnd, 2000, c.oneOf), 1+rnd.IntN(6)
			got, sent, ok := impl.PushOver(s, x, lost, rounds)
			want, n, is := modelPush(s, x, lost, rounds)
			if !sameSide(got, want) || sent != n || ok != is {
				t.Fatalf("PushOver(%+v, %+v, %v, %v) = %+v, %v, %v", s, x, lost[:sent], rounds, got, sent, ok)
			}
			if force := map[bool]impl.Snapshot{true: x, false: s.Force}[ok]; !sameSnapshot(got.Force, force) || ok && got.Coming != 0 {
				t.Fatalf("PushOver(%+v, %+v, %v, %v) = %+v, %v, %v", s, x, lost[:sent], rounds, got, sent, ok)
			}
			if c.oneOf == 1 && !sameSide(got, s) {
				t.Fatalf("nothing came, and %+v is %+v", s, got)
			}
			if missing, _ := impl.MissingIn(got); !ok && got.Coming == 5 && len(missing) == 0 && !slices.Contains(lost[:sent], true) {
				t.Fatal(got)
			}
			if ok {
				done++
			}
		}
		if done < c.least || done > c.most {
			t.Errorf("one of %v is lost: %v of 1000 in force", c.oneOf, done)
		}
	}
}

// A push that was broken off, and a side that crashed, are made good by the next push.
func TestPushAgain(t *testing.T) {
	rnd := rand.New(rand.NewPCG(6, 4))
	rules := smallRules()
	for round := range 300 {
		l := randomVersions(rnd, rules, 6)
		s := impl.Side{}
		for _, x := range l {
			before := s.Force
			s, _, _ = impl.PushOver(s, x, randomLost(rnd, 2000, 2), rnd.IntN(3))
			if s.Force.Number == x.Number {
				continue
			}
			if !sameSnapshot(s.Force, before) {
				t.Fatal(s, before)
			}
			left := len(x.Policy) + len(x.Revoked)
			if missing, _ := impl.MissingIn(s); s.Coming == x.Number {
				left = len(missing)
			}
			if round%3 == 0 {
				s, _ = impl.CrashSide(s)
				left = len(x.Policy) + len(x.Revoked)
			}
			var sent int
			var ok bool
			s, sent, ok = impl.PushOver(s, x, nil, 1)
			if !ok || sent != left+2 || !sameSide(s, impl.Side{Force: x}) {
				t.Fatal(s, sent, ok, x)
			}
		}
	}
}

// The tenth promise for this chapter: any arguments, none changed, none shared.

type pushCall struct {
	s      impl.Side
	x      impl.Snapshot
	m      impl.Mail
	lost   []bool
	rounds int
}

func (g *guard) side(s impl.Side) impl.Side {
	return impl.Side{Force: g.snapshot(s.Force), Coming: s.Coming, Rules: guarded(g, s.Rules, ruleBehind), Has: guarded(g, s.Has, true), Serials: guarded(g, s.Serials, numberBehind)}
}

// flagsAlone tells whether no two lists share memory; behind it each flag is turned about, so that one that an argument has is seen there.
func flagsAlone(lists ...[]bool) bool {
	var before [][]bool
	for _, l := range lists {
		before = append(before, slices.Clone(l[:cap(l)]))
	}
	for i, l := range lists {
		for k := range l[:cap(l)] {
			l[:cap(l)][k] = !before[i][k]
		}
		for j, other := range lists {
			turned := j <= i
			for k, flag := range other[:cap(other)] {
				if (flag != before[j][k]) != turned {
					return false
				}
			}
		}
	}
	return true
}

// checkPushCall asks every function of the chapter, holds each answer against the model's, and writes over all of it behind.
func checkPushCall(t *testing.T, c pushCall) {
	t.Helper()
	g := &guard{}
	s, x, lost := g.side(c.s), g.snapshot(c.x), guarded(g, c.lost, true)

	if got, want := impl.GoodSide(s), modelGoodSide(c.s); got != want {
		t.Errorf("GoodSide(%s) = %v", short(c.s), got)
	}
	mails, ok := impl.MailsOf(x)
	if want, is := modelMails(c.x); ok != is || !slices.Equal(mails, want) {
		t.Errorf("MailsOf(%s) = %s, %v", short(c.x), short(mails), ok)
	}
	took, ok := impl.TakeMail(s, c.m)
	if want, is := modelTake(c.s, c.m); ok != is || !sameSide(took, want) {
		t.Errorf("TakeMail(%s, %+v) = %s, %v", short(c.s), c.m, short(took), ok)
	}
	missing, ok := impl.MissingIn(s)
	if want, is := modelMissing(c.s); ok != is || !slices.Equal(missing, want) {
		t.Errorf("MissingIn(%s) = %v, %v", short(c.s), missing, ok)
	}
	over, sent, ok := impl.PushOver(s, x, lost, c.rounds)
	if want, n, is := modelPush(c.s, c.x, c.lost, c.rounds); ok != is || sent != n || !sameSide(over, want) {
		t.Errorf("PushOver(%s, %s, %s, %v) = %s, %v, %v", short(c.s), short(c.x), short(c.lost), c.rounds, short(over), sent, ok)
	}
	crashed, ok := impl.CrashSide(s)
	if want, is := modelCrash(c.s); ok != is || !sameSide(crashed, want) {
		t.Errorf("CrashSide(%s) = %s, %v", short(c.s), short(crashed), ok)
	}

	all := answered{numbers: [][]int{missing}}
	for _, side := range []impl.Side{took, over, crashed} {
		all.snapshots(side.Force)
		all.rules = append(all.rules, side.Rules)
		all.numbers = append(all.numbers, side.Serials)
	}
	if !all.alone() || !flagsAlone(took.Has, over.Has, crashed.Has) {
		t.Errorf("shared: %s", short(c))
	}
	wipe(mails)
	if !g.unchanged() {
		t.Errorf("changed: %s", short(c))
	}
}

// oddSide makes one part of a side odd.
func oddSide(rnd *rand.Rand, s impl.Side, odd []impl.Rule) impl.Side {
	s = copySide(s)
	number, rule := oddNumbers[rnd.IntN(len(oddNumbers))], odd[rnd.IntN(len(odd))]
	switch part := rnd.IntN(8); {
	case part == 0:
		s.Force = oddSnapshot(rnd, s.Force, odd)
	case part == 1:
		s.Coming = number
	case part == 2:
		s.Rules = oddList(rnd, s.Rules, rule)
	case part == 3:
		s.Has = oddList(rnd, s.Has, rnd.IntN(2) == 0)
	case part == 4:
		s.Serials = oddList(rnd, s.Serials, number)
	case len(s.Has) == 0:
		s.Rules, s.Has, s.Serials = []impl.Rule{rule}, []bool{true}, []int{0}
	case part == 5:
		s.Rules[rnd.IntN(len(s.Rules))] = rule
	case part == 6:
		i := rnd.IntN(len(s.Has))
		s.Has[i] = !s.Has[i]
	default:
		s.Serials[rnd.IntN(len(s.Serials))] = number
	}
	return s
}

// randomMail tells a mail that mostly is one for the side.
func randomMail(rnd *rand.Rand, s impl.Side, rules []impl.Rule) impl.Mail {
	m := impl.Mail{Kind: 1 + rnd.IntN(4), Version: s.Coming, Number: rnd.IntN(len(s.Has) + 1)}
	if rnd.IntN(4) == 0 {
		m.Version = s.Force.Number + rnd.IntN(5) - 1
	}
	switch m.Kind {
	case impl.MailRule:
		m.Rule = rules[rnd.IntN(len(rules))]
	case impl.MailRevoked:
		m.Serial = 1 + rnd.IntN(40)
	case impl.MailCommit:
		m.Number = len(s.Has)
	}
	return m
}

func oddMail(rnd *rand.Rand, m impl.Mail, odd []impl.Rule) impl.Mail {
	number := oddNumbers[rnd.IntN(len(oddNumbers))]
	switch rnd.IntN(5) {
	case 0:
		m.Kind = number
	case 1:
		m.Version = number
	case 2:
		m.Number = number
	case 3:
		m.Rule = odd[rnd.IntN(len(odd))]
	case 4:
		m.Serial = number
	}
	return m
}

func TestAnyPush(t *testing.T) {
	rnd := rand.New(rand.NewPCG(6, 1000))
	odd, rules := oddRules(), smallRules()
	for round := range 8000 {
		c := pushCall{s: randomSide(rnd, rules), lost: randomLost(rnd, rnd.IntN(60), 1+rnd.IntN(5)), rounds: rnd.IntN(7)}
		c.x = randomVersions(rnd, rules, 1)[0]
		if rnd.IntN(2) == 0 {
			c.x.Number = max(1, min(100000, c.s.Force.Number+rnd.IntN(4)))
		}
		c.m = randomMail(rnd, c.s, rules)
		switch round % 6 {
		case 0:
			c.s = oddSide(rnd, c.s, odd)
		case 1:
			c.x = oddSnapshot(rnd, c.x, odd)
		case 2:
			c.m = oddMail(rnd, c.m, odd)
		case 3:
			c.rounds = oddNumbers[rnd.IntN(len(oddNumbers))]
		}
		checkPushCall(t, c)
	}
	checkPushCall(t, pushCall{})
}

func TestPushFarTooLong(t *testing.T) {
	long := impl.Snapshot{Number: 3, Policy: slices.Repeat(rulesNumbered(1, 2), 50000), Revoked: upFrom(1, 100000)}
	side := impl.Side{Coming: 3, Rules: make([]impl.Rule, 100000), Has: make([]bool, 100000), Serials: make([]int, 100000)}
	mail := impl.Mail{Kind: 4, Version: 3, Number: 100000}
	checkPushCall(t, pushCall{s: side, x: long, m: mail, lost: make([]bool, 100000), rounds: 50})
	checkPushCall(t, pushCall{s: impl.Side{Force: long}, x: pushed, m: mail, rounds: 1})
	checkPushCall(t, pushCall{s: sideWith(nothing, 3), x: long, m: mail, rounds: 1})
	checkPushCall(t, pushCall{x: pushed, m: pushedMails[0], lost: make([]bool, 100000), rounds: 1})
	checkPushCall(t, pushCall{s: sideWith(nothing, 5, make([]any, 230)...), x: fullSnapshot(100000), m: pushedMails[1], lost: slices.Repeat([]bool{true}, 2000), rounds: 50})
	checkPushCall(t, pushCall{s: sideWith(fullSnapshot(4), 100000, make([]any, 230)...), x: fullSnapshot(99999), m: pushedMails[1], rounds: 50})
}

// Two answers made of one side share nothing: what comes to one has not come to the other.
func TestPushAnswersAreNew(t *testing.T) {
	s := sideWith(snapshotOf(3, rulesNumbered(1), 2), 5, nil, nil, nil)
	before := copySide(s)
	a, _ := impl.TakeMail(s, pushedMails[1])
	b, _ := impl.TakeMail(s, pushedMails[3])
	c, _, _ := impl.PushOver(s, pushed, nil, 1)
	d, _, _ := impl.PushOver(s, pushed, nil, 0)
	e, _ := impl.CrashSide(s)
	clear(d.Force.Policy)
	clear(e.Force.Revoked)
	d.Has[1] = true
	if !sameSide(s, before) || !slices.Equal(a.Has, []bool{true, false, false}) || !slices.Equal(b.Has, []bool{false, false, true}) || !sameSnapshot(c.Force, pushed) {
		t.Error(s, a, b, c)
	}
	clear(c.Force.Policy)
	clear(c.Force.Revoked)
	if pushed.Policy[0] == (impl.Rule{}) || pushed.Revoked[0] != 7 {
		t.Error(pushed)
	}
}

// The same memory may be handed in more than once; the answer still has its own.
func TestPushOfOneMemory(t *testing.T) {
	rules, numbers, flags := rulesNumbered(1, 2), []int{0, 0}, []bool{true, true}
	s := impl.Side{Force: impl.Snapshot{Number: 3, Policy: rules}, Coming: 4, Rules: rules, Has: flags, Serials: numbers}
	x := impl.Snapshot{Number: 5, Policy: rules}
	for _, m := range []impl.Mail{{}, {Kind: 4, Version: 4, Number: 2}, {Kind: 1, Version: 9, Number: 2}} {
		took, ok := impl.TakeMail(s, m)
		all := answered{}
		all.snapshots(took.Force)
		all.rules = append(all.rules, took.Rules)
		if !ok || !all.alone() {
			t.Error(took, ok)
		}
	}
	over, _, ok := impl.PushOver(s, x, flags, 4)
	if !ok || !slices.Equal(over.Force.Policy, rules) {
		t.Error(over, ok)
	}
	clear(over.Force.Policy)
	if !slices.Equal(rules, rulesNumbered(1, 2)) || !slices.Equal(numbers, []int{0, 0}) || !slices.Equal(flags, []bool{true, true}) {
		t.Error(s, x)
	}
}

// FuzzPush makes sides of what it is fed: each three bytes are a mail, a push or a crash.
func FuzzPush(f *testing.F) {
	f.Add([]byte{1, 4, 2, 2, 4, 0, 3, 4, 1, 4, 4, 2, 5, 9, 9})
	f.Add([]byte{})
	f.Fuzz(func(t *testing.T, acts []byte) {
		rules := smallRules()
		c := pushCall{}
		for ; len(acts) > 2 && len(acts) < 200; acts = acts[3:] {
			v, y := int(acts[1]), int(acts[2])
			c.m = impl.Mail{Kind: int(acts[0] % 7), Version: v, Number: y, Rule: rules[y%len(rules)], Serial: 1 + y}
			c.x = snapshotOf(v, rulesNumbered(upFrom(0, y%32)...), upFrom(1, y%9)...)
			c.rounds, c.lost = y%5, append(c.lost, y%2 == 0)
			checkPushCall(t, c)
			switch c.m.Kind {
			case 5:
				c.s, _, _ = impl.PushOver(c.s, c.x, c.lost, c.rounds)
			case 6:
				c.s, _ = impl.CrashSide(c.s)
			default:
				c.s, _ = impl.TakeMail(c.s, c.m)
			}
		}
	})
}
