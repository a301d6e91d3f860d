package tests

import (
	"math"
	"math/rand/v2"
	"slices"
	"testing"

	"loop.example/g00167/impl"
)

// The third promise in its own words, on the program's answers.

func TestTokensComeBack(t *testing.T) {
	rnd := rand.New(rand.NewPCG(3, 1))
	for round := range 3000 {
		l := randomToken(rnd, 1+round%6)
		s, ok := impl.TokenText(l)
		if !ok || s != modelTokenText(l) {
			t.Fatalf("TokenText(%v) = %q, %v", l, s, ok)
		}
		if back, ok := impl.ReadToken(s); !ok || !slices.Equal(back, l) {
			t.Fatalf("ReadToken(%q) = %v, %v", s, back, ok)
		}
	}
}

// grown tells a token that was made by the program's own hops, as far as they went.
func grown(t *testing.T, rnd *rand.Rand, hops int) []impl.Link {
	l := []impl.Link{{Who: "p/a", To: "p/b", Serial: 1, From: 10, Until: 40}}
	for hop := range hops {
		to, now, life := someNames[rnd.IntN(len(someNames))], rnd.IntN(45), rnd.IntN(45)
		longer, ok := impl.ExtendToken(l, to, 2+hop, now, life)
		want, good := modelExtend(l, to, 2+hop, now, life)
		if ok != good || good && !slices.Equal(longer, want) {
			t.Fatalf("ExtendToken(%v, %q, %v, %v, %v) = %v, %v", l, to, 2+hop, now, life, longer, ok)
		}
		if !ok {
			continue
		}
		if !impl.GoodToken(longer) || longer[len(l)].Until > l[len(l)-1].Until {
			t.Fatalf("%v grew to %v", l, longer)
		}
		l = longer
	}
	return l
}

func TestWhatIsSignedInTimeAndNotTakenBackIsRight(t *testing.T) {
	rnd := rand.New(rand.NewPCG(3, 2))
	lengths := map[int]int{}
	for range 400 {
		l := grown(t, rnd, rnd.IntN(9))
		lengths[len(l)]++
		signed, ok := impl.SignedOf(l)
		if !ok || len(signed) != len(l) {
			t.Fatalf("SignedOf(%v) = %v, %v", l, signed, ok)
		}
		at, from, until := l[len(l)-1].To, 0, 100000
		for _, k := range l {
			from, until = max(from, k.From), min(until, k.Until)
		}
		for now := range 60 {
			want := impl.TokenOk
			if now < from || now > until {
				want = impl.TokenTime
			}
			if got := impl.CheckToken(l, signed, now, []int{100, 0, -1}, at); got != want {
				t.Fatalf("%v at %v: %v", l, now, got)
			}
		}
		if from > until {
			continue
		}
		for i, k := range l {
			if got := impl.CheckToken(l, signed, from, []int{100, k.Serial}, at); got != impl.TokenRevoked {
				t.Fatalf("%v without %v: %v", l, k.Serial, got)
			}
			less := slices.Delete(slices.Clone(signed), i, i+1)
			if got := impl.CheckToken(l, less, until, nil, at); got != impl.TokenSigned {
				t.Fatalf("%v not signed at %v: %v", l, i, got)
			}
		}
	}
	for n := 1; n <= 6; n++ {
		if lengths[n] < 10 {
			t.Errorf("only %v tokens of %v links", lengths[n], n)
		}
	}
}

// What a link says is signed with it: a token that is changed anywhere is not the one that was.
func TestChangedLinksAreNotSigned(t *testing.T) {
	for n := 1; n <= 6; n++ {
		signed, _ := impl.SignedOf(chainOf(n))
		for i := range n {
			for what := range 4 {
				l := chainOf(n)
				switch what {
				case 0:
					l[i].Serial += 50
				case 1:
					l[i].From--
				case 2:
					l[i].Until++
				case 3:
					l[i].To = "q/q"
					if i+1 < n {
						l[i+1].Who = "q/q"
					}
				}
				if got := impl.CheckToken(l, signed, 50, nil, l[n-1].To); got != impl.TokenSigned {
					t.Errorf("%v: %v", l, got)
				}
			}
		}
	}
}

func TestCheckTokenAsTheModelSays(t *testing.T) {
	rnd := rand.New(rand.NewPCG(3, 3))
	told := map[int]int{}
	for range 20000 {
		l := randomToken(rnd, 1+rnd.IntN(6))
		signed := modelSigned(l)
		if rnd.IntN(4) == 0 {
			signed = signed[rnd.IntN(len(signed)):]
		}
		rnd.Shuffle(len(signed), func(i, j int) { signed[i], signed[j] = signed[j], signed[i] })
		var revoked []int
		for range rnd.IntN(4) {
			revoked = append(revoked, rnd.IntN(22))
		}
		now, at := l[rnd.IntN(len(l))].From+rnd.IntN(3)-1, l[rnd.IntN(len(l))].To
		want := modelCheck(l, signed, now, revoked, at)
		told[want]++
		if got := impl.CheckToken(l, signed, now, revoked, at); got != want {
			t.Fatalf("CheckToken(%v, %q, %v, %v, %q) = %v, asked: %v", l, signed, now, revoked, at, got, want)
		}
	}
	for code := range 6 {
		if told[code] < 50 {
			t.Errorf("code %v was told %v times", code, told[code])
		}
	}
}

// The tenth promise for this chapter: any arguments, none changed, none shared.

var oddNumbers = []int{math.MinInt, math.MinInt + 1, -100001, -1, 0, 1, 2, 9, 99999, 100000, 100001, 200000, 1 << 32, math.MaxInt - 100000, math.MaxInt}

func oddLink(rnd *rand.Rand) impl.Link {
	texts := append([]string{"p/a p/b", "p/a;", "p/a p/b 1 0 0;p/b"}, nearTexts...)
	text := func() string { return texts[rnd.IntN(len(texts))] }
	number := func() int { return oddNumbers[rnd.IntN(len(oddNumbers))] }
	return impl.Link{Who: text(), To: text(), Serial: number(), From: number(), Until: number()}
}

type tokenCall struct {
	l         []impl.Link
	to        string
	serial    int
	now, life int
	signed    []string
	revoked   []int
}

// checkTokenCall hands each list over with room behind it that would change the answer if it were read.
func checkTokenCall(t *testing.T, c tokenCall) {
	last := "p/a"
	if len(c.l) > 0 {
		last = c.l[len(c.l)-1].To
	}
	behind := impl.Link{Who: last, To: "p/z", Serial: 1, From: 0, Until: 100000}
	l, links := spare(c.l, behind, behind)
	signed, texts := spare(c.signed, modelSigned(c.l)...)
	revoked, numbers := spare(c.revoked, 1, 2, 3, 4, 5, 6, 7, 8, 9, 10)
	linksBefore, textsBefore, numbersBefore := slices.Clone(links), slices.Clone(texts), slices.Clone(numbers)

	checkToken(t, l, modelGoodToken(c.l))
	want, good := modelExtend(c.l, c.to, c.serial, c.now, c.life)
	if !good {
		want = nil
	}
	longer, ok := impl.ExtendToken(l, c.to, c.serial, c.now, c.life)
	if ok != good || !slices.Equal(longer, want) {
		t.Errorf("ExtendToken(%s, %.60q, %v, %v, %v) = %v, %v", short(c.l), c.to, c.serial, c.now, c.life, longer, ok)
	}
	clear(longer[:cap(longer)])
	if got, want := impl.CheckToken(l, signed, c.now, revoked, c.to), modelCheck(c.l, c.signed, c.now, c.revoked, c.to); got != want {
		t.Errorf("CheckToken(%s, %s, %v, %s, %.60q) = %v, asked: %v", short(c.l), short(c.signed), c.now, short(c.revoked), c.to, got, want)
	}
	signedOf, _ := impl.SignedOf(l)
	clear(signedOf[:cap(signedOf)])
	callers, _ := impl.CallersOf(l)
	clear(callers[:cap(callers)])
	if !slices.Equal(links, linksBefore) || !slices.Equal(texts, textsBefore) || !slices.Equal(numbers, numbersBefore) {
		t.Errorf("changed: %s, %s, %s", short(links), short(texts), short(numbers))
	}
}

func TestAnyToken(t *testing.T) {
	rnd := rand.New(rand.NewPCG(3, 4))
	for round := range 6000 {
		l := randomToken(rnd, rnd.IntN(9))
		if round%3 == 0 && len(l) > 0 {
			l[rnd.IntN(len(l))] = oddLink(rnd)
		}
		c := tokenCall{l: l, to: someNames[rnd.IntN(len(someNames))], serial: 1 + rnd.IntN(20), now: rnd.IntN(60), life: rnd.IntN(60), signed: modelSigned(l)}
		if round%2 == 0 {
			c.to = nearTexts[rnd.IntN(len(nearTexts))]
			c.serial, c.now, c.life = oddNumbers[rnd.IntN(len(oddNumbers))], oddNumbers[rnd.IntN(len(oddNumbers))], oddNumbers[rnd.IntN(len(oddNumbers))]
		}
		if round%5 == 0 {
			c.signed = c.signed[:rnd.IntN(len(c.signed)+1)]
		}
		for range rnd.IntN(5) {
			c.signed = append(c.signed, nearTexts[rnd.IntN(len(nearTexts))])
			c.revoked = append(c.revoked, oddNumbers[rnd.IntN(len(oddNumbers))])
		}
		checkTokenCall(t, c)
	}
	checkTokenCall(t, tokenCall{})
	checkTokenCall(t, tokenCall{l: make([]impl.Link, 500), to: "p/a", serial: 1})
	checkTokenCall(t, tokenCall{l: twoHops, to: "p/c", serial: 1, signed: make([]string, 100000), revoked: make([]int, 100000)})
}

// All odd numbers at once, where nothing else is wrong.
func TestExtendTokenAnyNumbers(t *testing.T) {
	for _, serial := range oddNumbers {
		for _, now := range oddNumbers {
			for _, life := range oddNumbers {
				for _, until := range []int{0, 9, 100000} {
					l := []impl.Link{{Who: "p/a", To: "p/b", Serial: 1, From: 0, Until: until}}
					want, good := modelExtend(l, "p/c", serial, now, life)
					if !good {
						want = nil
					}
					if got, ok := impl.ExtendToken(l, "p/c", serial, now, life); ok != good || !slices.Equal(got, want) {
						t.Errorf("ExtendToken(%v, %v, %v, %v) = %v, %v", l, serial, now, life, got, ok)
					}
				}
			}
		}
	}
}

// Two answers of one call's arguments share nothing either: what is written into one is not in the other.
func TestTokenAnswersAreNew(t *testing.T) {
	l, whole := spare(chainOf(3), impl.Link{Who: "p/x"}, impl.Link{Who: "p/y"})
	a, _ := impl.ExtendToken(l, "p/a", 1, 50, 1)
	b, _ := impl.ExtendToken(l, "p/b", 2, 50, 1)
	if len(a) != 4 || len(b) != 4 || a[3].To != "p/a" || b[3].To != "p/b" {
		t.Fatal(a, b)
	}
	clear(a)
	if !slices.Equal(b[:3], chainOf(3)) || !slices.Equal(l, chainOf(3)) || whole[3].Who != "p/x" {
		t.Error(b, whole)
	}
	first, _ := impl.ReadToken(twoHopsText)
	clear(first)
	if second, ok := impl.ReadToken(twoHopsText); !ok || !slices.Equal(second, twoHops) {
		t.Error(second, ok)
	}
}

func FuzzReadToken(f *testing.F) {
	f.Add(twoHopsText)
	f.Add("")
	f.Add(modelTokenText(chainOf(6)))
	f.Add("p/a p/b 03 -2 +9;")
	f.Fuzz(func(t *testing.T, s string) { checkTokenText(t, s) })
}
