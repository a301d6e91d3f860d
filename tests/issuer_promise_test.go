package tests

import (
	"fmt"
	"math/rand/v2"
	"slices"
	"testing"

	"loop.example/g00167/impl"
)

// The fourth promise in its own words, on the program's answers: works are enrolled, issued to, hopped over and revoked in turn.

type issuedToken struct {
	l   []impl.Link
	now int
}

type issuerWalk struct {
	t      *testing.T
	rnd    *rand.Rand
	s      impl.Issuer
	tokens []issuedToken
	given  map[int]bool
	last   map[string]int
	told   map[string]int
}

func (w *issuerWalk) name() string {
	return someNames[w.rnd.IntN(len(someNames))]
}

func (w *issuerWalk) check(l []impl.Link, now int) int {
	return impl.CheckToken(l, w.s.Signed, now, w.s.Revoked, l[len(l)-1].To)
}

func (w *issuerWalk) enrol() {
	name := w.name()
	got := same(w.t, "enrol", askEnrol(w.s, name), modelEnrol(w.s, name))
	w.told[fmt.Sprint("enrol ", got.code)]++
	if got.code == impl.IssueOk {
		w.last[name] = 0
	}
	w.s = got.s
}

// took notes a token that was handed out: its serial was never given before.
func (w *issuerWalk) took(got issuerAnswer, now int) {
	k := got.l[len(got.l)-1]
	if w.given[k.Serial] {
		w.t.Fatalf("the serial %v was given twice", k.Serial)
	}
	w.given[k.Serial], w.last[k.Who] = true, k.Serial
	w.tokens = append(w.tokens, issuedToken{got.l, now})
}

func (w *issuerWalk) issue() {
	name, to, now, life := w.name(), w.name(), w.rnd.IntN(40), w.rnd.IntN(40)
	got := same(w.t, "issue", askIssue(w.s, name, to, now, life), modelIssue(w.s, name, to, now, life))
	w.told[fmt.Sprint("issue ", got.code)]++
	w.s = got.s
	if got.code != impl.IssueOk {
		return
	}
	w.took(got, now)
	for _, at := range []int{now, got.l[0].Until} {
		if code := w.check(got.l, at); code != impl.TokenOk {
			w.t.Fatalf("%v is issued and told %v at %v", got.l, code, at)
		}
	}
}

// A hop is right at once if what it was made of is: it adds nothing that is wrong.
func (w *issuerWalk) hop() {
	if len(w.tokens) == 0 {
		return
	}
	from := w.tokens[w.rnd.IntN(len(w.tokens))]
	to, now, life := w.name(), from.now+w.rnd.IntN(3), w.rnd.IntN(40)
	before := w.check(from.l, now)
	got := same(w.t, "hop", askHop(w.s, from.l, to, now, life), modelHop(w.s, from.l, to, now, life))
	w.told[fmt.Sprint("hop ", got.code)]++
	w.s = got.s
	if got.code != impl.IssueOk {
		return
	}
	w.took(got, now)
	if after := w.check(got.l, now); after != before {
		w.t.Fatalf("%v told %v, and %v tells %v", from.l, before, got.l, after)
	}
	if before == impl.TokenOk {
		w.told["right hops"]++
	}
}

func (w *issuerWalk) revoke() {
	name := w.name()
	serial, there := impl.SerialsOf(w.s, name)
	if n, ok := w.last[name]; n != serial || ok != there {
		w.t.Fatalf("%q was given %v at last, and SerialsOf tells %v, %v", name, n, serial, there)
	}
	got := same(w.t, "revoke", askRevoke(w.s, name), modelRevoke(w.s, name))
	w.told[fmt.Sprint("revoke ", got.code)]++
	w.s = got.s
	if got.code != impl.IssueOk || serial == 0 {
		return
	}
	for _, token := range w.tokens {
		if !slices.ContainsFunc(token.l, func(k impl.Link) bool { return k.Serial == serial }) {
			continue
		}
		w.told["gone"]++
		for now := range 80 {
			if code := w.check(token.l, now); code != impl.TokenRevoked && code != impl.TokenTime {
				w.t.Fatalf("%v is told %v at %v without %q", token.l, code, now, name)
			}
		}
		if len(token.l) == 1 && w.check(token.l, token.now) != impl.TokenRevoked {
			w.t.Fatalf("%v is told %v", token.l, w.check(token.l, token.now))
		}
	}
}

func TestWhatIsIssuedIsRightUntilItIsRevoked(t *testing.T) {
	told := map[string]int{}
	for round := range 60 {
		w := issuerWalk{t: t, rnd: rand.New(rand.NewPCG(4, uint64(round))), s: impl.NewIssuer(), given: map[int]bool{}, last: map[string]int{}, told: told}
		for range 500 {
			switch w.rnd.IntN(8) {
			case 0, 1:
				w.enrol()
			case 2, 3, 4:
				w.issue()
			case 5, 6:
				w.hop()
			case 7:
				w.revoke()
			}
			if !impl.GoodIssuer(w.s) {
				t.Fatal(short(w.s))
			}
		}
	}
	for _, what := range []string{"enrol 0", "enrol 2", "issue 0", "issue 3", "issue 4", "hop 0", "hop 3", "hop 4", "revoke 0", "revoke 3", "right hops", "gone"} {
		if told[what] < 50 {
			t.Errorf("%s only %v times", what, told[what])
		}
	}
}

// Who comes back is given new serials: what was taken back stays so.
func TestEnrolledAgainTheOldStaysRevoked(t *testing.T) {
	s := askEnrol(impl.NewIssuer(), "p/a").s
	var gone [][]impl.Link
	for round := range 30 {
		got := askIssue(s, "p/a", "p/b", 10, 10)
		if got.code != impl.IssueOk || got.l[0].Serial != round+1 {
			t.Fatal(round, got)
		}
		s = got.s
		if code := impl.CheckToken(got.l, s.Signed, 10, s.Revoked, "p/b"); code != impl.TokenOk {
			t.Error(round, code)
		}
		gone = append(gone, got.l)
		s = askRevoke(s, "p/a").s
		s = askEnrol(s, "p/a").s
		for _, l := range gone {
			if code := impl.CheckToken(l, s.Signed, 10, s.Revoked, "p/b"); code != impl.TokenRevoked {
				t.Error(round, l, code)
			}
		}
	}
}

// A token with several links is taken back with each of those that handed it on.
func TestEachHopTakesBack(t *testing.T) {
	s := impl.NewIssuer()
	names := []string{"p/a", "p/b", "p/c", "p/d", "p/e", "p/f", "p/g"}
	for _, name := range names {
		s = askEnrol(s, name).s
	}
	got := askIssue(s, names[0], names[1], 10, 50)
	for i := 2; i < len(names); i++ {
		got = askHop(got.s, got.l, names[i], 10+i, 50)
		if code := impl.CheckToken(got.l, got.s.Signed, 10+i, got.s.Revoked, names[i]); code != impl.TokenOk || got.code != impl.IssueOk {
			t.Fatal(i, code, got)
		}
	}
	for i, name := range names {
		want := impl.TokenRevoked
		if i == len(names)-1 {
			want = impl.TokenOk
		}
		gone := askRevoke(got.s, name)
		if code := impl.CheckToken(got.l, gone.s.Signed, 20, gone.s.Revoked, "p/g"); code != want {
			t.Errorf("without %q: %v", name, code)
		}
	}
}

// The tenth promise for this chapter: any arguments, none changed, none shared.

type issuerCall struct {
	s         impl.Issuer
	l         []impl.Link
	name, to  string
	now, life int
}

func wipe[T any](l []T) {
	clear(l[:cap(l)])
}

// checkIssuerCall hands each list over with room behind it that would change the answer if it were read, and wipes each answer behind.
func checkIssuerCall(t *testing.T, c issuerCall) {
	t.Helper()
	works, allWorks := spare(c.s.Works, workOf("z/z", true, 0), workOf("z/zz", false, 0))
	revoked, allRevoked := spare(c.s.Revoked, 1, 2, 3)
	signed, allSigned := spare(c.s.Signed, "x", "y")
	l, allLinks := spare(c.l, linkOf("p/z", "z/z", 1, 0, 100000))
	s := impl.Issuer{Works: works, Next: c.s.Next, Revoked: revoked, Signed: signed}
	worksBefore, revokedBefore, signedBefore, linksBefore := slices.Clone(allWorks), slices.Clone(allRevoked), slices.Clone(allSigned), slices.Clone(allLinks)

	answers := []issuerAnswer{
		same(t, "enrol", askEnrol(s, c.name), modelEnrol(c.s, c.name)),
		same(t, "issue", askIssue(s, c.name, c.to, c.now, c.life), modelIssue(c.s, c.name, c.to, c.now, c.life)),
		same(t, "hop", askHop(s, l, c.to, c.now, c.life), modelHop(c.s, c.l, c.to, c.now, c.life)),
		same(t, "revoke", askRevoke(s, c.name), modelRevoke(c.s, c.name)),
	}
	if got, want := impl.GoodIssuer(s), modelGoodIssuer(c.s); got != want {
		t.Errorf("GoodIssuer(%s) = %v", short(c.s), got)
	}
	serial, there := modelSerial(c.s, c.name)
	if n, ok := impl.SerialsOf(s, c.name); n != serial || ok != there {
		t.Errorf("SerialsOf(%s, %.60q) = %v, %v", short(c.s), c.name, n, ok)
	}
	for _, a := range answers {
		wipe(a.s.Works)
		wipe(a.s.Revoked)
		wipe(a.s.Signed)
		wipe(a.l)
	}
	if !slices.Equal(allWorks, worksBefore) || !slices.Equal(allRevoked, revokedBefore) || !slices.Equal(allSigned, signedBefore) || !slices.Equal(allLinks, linksBefore) {
		t.Errorf("changed: %s, %s, %s, %s", short(allWorks), short(allRevoked), short(allSigned), short(allLinks))
	}
}

// spoil makes one part of an issuer odd.
func spoil(rnd *rand.Rand, s impl.Issuer) impl.Issuer {
	number := oddNumbers[rnd.IntN(len(oddNumbers))]
	switch rnd.IntN(5) {
	case 0:
		s.Next = number
	case 1:
		s.Works = append(s.Works, workOf(nearTexts[rnd.IntN(len(nearTexts))], true, 0))
	case 2:
		s.Works = append(s.Works, workOf("x/y", true, number))
	case 3:
		s.Revoked = append(s.Revoked, number)
	case 4:
		rnd.Shuffle(len(s.Works), func(i, j int) { s.Works[i], s.Works[j] = s.Works[j], s.Works[i] })
	}
	return s
}

func TestAnyIssuer(t *testing.T) {
	rnd := rand.New(rand.NewPCG(4, 1000))
	name := func() string { return someNames[rnd.IntN(len(someNames))] }
	for round := range 8000 {
		c := issuerCall{s: randomIssuer(rnd), l: randomToken(rnd, rnd.IntN(8)), name: name(), to: name(), now: rnd.IntN(60), life: rnd.IntN(60)}
		switch round % 6 {
		case 0:
			c.s = spoil(rnd, c.s)
		case 1:
			c.name = nearTexts[rnd.IntN(len(nearTexts))]
		case 2:
			c.to = nearTexts[rnd.IntN(len(nearTexts))]
		case 3:
			c.now, c.life = oddNumbers[rnd.IntN(len(oddNumbers))], oddNumbers[rnd.IntN(len(oddNumbers))]
		case 4:
			if len(c.l) > 0 {
				c.l[rnd.IntN(len(c.l))] = oddLink(rnd)
			}
		}
		checkIssuerCall(t, c)
	}
	checkIssuerCall(t, issuerCall{})
	checkIssuerCall(t, issuerCall{s: impl.Issuer{Next: 1, Works: make([]impl.Work, 100000), Revoked: make([]int, 100000), Signed: make([]string, 100000)}, l: make([]impl.Link, 1000), name: "p/a", to: "p/b"})
}

// Two answers made of one issuer share nothing: what is put behind one is not behind the other.
func TestIssuerAnswersAreNew(t *testing.T) {
	s := somebody()
	s.Works, s.Revoked, s.Signed = slices.Grow(s.Works, 9), slices.Grow(s.Revoked, 9), slices.Grow(s.Signed, 9)
	a, b := askIssue(s, "p/a", "p/x", 1, 1), askIssue(s, "p/b", "p/y", 2, 2)
	c, d := askEnrol(s, "p/d"), askEnrol(s, "o/o")
	e, f := askRevoke(s, "p/a"), askRevoke(s, "p/b")
	if a.s.Signed[2] != "p/a p/x 7 1 2;" || b.s.Signed[2] != "p/b p/y 7 2 4;" || c.s.Works[3].Name != "p/d" || d.s.Works[0].Name != "o/o" {
		t.Error(a, b, c, d)
	}
	if e.s.Works[0].Live || !e.s.Works[1].Live || !f.s.Works[0].Live || f.s.Works[1].Live || e.n != 3 || f.n != 2 {
		t.Error(e, f)
	}
	if !sameIssuer(s, somebody()) {
		t.Error(s)
	}
	l, whole := spare(chainOf(2), linkOf("p/x", "p/x", 1, 0, 0))
	s.Works = append(s.Works, workOf("p/w2", true, 0))
	g, h := askHop(s, l, "p/a", 50, 1), askHop(s, l, "p/b", 50, 1)
	if len(g.l) != 3 || len(h.l) != 3 || g.l[2].To != "p/a" || h.l[2].To != "p/b" || whole[2].Who != "p/x" {
		t.Error(g, h, whole)
	}
}

// FuzzIssuer walks an issuer by what it is fed: each two bytes are an act.
func FuzzIssuer(f *testing.F) {
	f.Add([]byte{0, 0, 0, 1, 1, 0, 2, 1, 3, 0, 0, 0, 1, 0})
	f.Add([]byte{})
	f.Fuzz(func(t *testing.T, acts []byte) {
		s, l := impl.NewIssuer(), []impl.Link(nil)
		for ; len(acts) > 1; acts = acts[2:] {
			name, n := someNames[int(acts[1])%len(someNames)], int(acts[1])
			to := someNames[n/8%len(someNames)]
			checkIssuerCall(t, issuerCall{s: s, l: l, name: name, to: to, now: n, life: n})
			var got issuerAnswer
			switch acts[0] % 4 {
			case 0:
				got = askEnrol(s, name)
			case 1:
				got = askIssue(s, name, to, n, n)
			case 2:
				got = askHop(s, l, to, n, n)
			case 3:
				got = askRevoke(s, name)
			}
			if got.code != impl.IssueBad {
				s = got.s
			}
			if got.l != nil {
				l = got.l
			}
		}
	})
}
