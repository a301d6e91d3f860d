package tests

import (
	"fmt"
	"maps"
	"math/rand/v2"
	"slices"
	"strings"
	"testing"

	"loop.example/g00167/impl"
)

// The model keeps an issuer's works and its revoked ones in maps and sorts them when it tells them; it calls nothing of the program.

type issuerModel struct {
	works   map[string]impl.Work
	revoked map[int]bool
	next    int
	signed  []string
}

// issuerAnswer is what any function of the chapter tells; what one of them does not tell is zero.
type issuerAnswer struct {
	s    impl.Issuer
	l    []impl.Link
	n    int
	code int
}

func modelGoodIssuer(s impl.Issuer) bool {
	if s.Next < 1 || s.Next > 100000 || len(s.Works) > 20 || len(s.Signed) > 200 {
		return false
	}
	for _, w := range s.Works {
		if !nameForm.MatchString(w.Name) || w.Serial < 0 || w.Serial > s.Next-1 {
			return false
		}
	}
	for _, n := range s.Revoked {
		if n < 1 || n > s.Next-1 {
			return false
		}
	}
	sorted := modelIssuer(s).told()
	return slices.Equal(sorted.Works, s.Works) && slices.Equal(sorted.Revoked, s.Revoked)
}

func modelIssuer(s impl.Issuer) issuerModel {
	m := issuerModel{works: map[string]impl.Work{}, revoked: map[int]bool{}, next: s.Next, signed: slices.Clone(s.Signed)}
	for _, w := range s.Works {
		m.works[w.Name] = w
	}
	for _, n := range s.Revoked {
		m.revoked[n] = true
	}
	return m
}

func (m issuerModel) told() impl.Issuer {
	s := impl.Issuer{Next: m.next, Revoked: slices.Sorted(maps.Keys(m.revoked)), Signed: m.signed}
	for _, name := range slices.Sorted(maps.Keys(m.works)) {
		s.Works = append(s.Works, m.works[name])
	}
	return s
}

func modelEnrol(s impl.Issuer, name string) issuerAnswer {
	if !modelGoodIssuer(s) || !nameForm.MatchString(name) {
		return issuerAnswer{code: 1}
	}
	m := modelIssuer(s)
	if m.works[name].Live {
		return issuerAnswer{s: s, code: 2}
	}
	m.works[name] = impl.Work{Name: name, Live: true}
	if len(m.works) > 20 {
		return issuerAnswer{s: s, code: 4}
	}
	return issuerAnswer{s: m.told()}
}

func modelIssue(s impl.Issuer, name, to string, now, life int) issuerAnswer {
	if !modelGoodIssuer(s) || !nameForm.MatchString(name) || !nameForm.MatchString(to) || now < 0 || now > 100000 || life < 0 || life > 100000 {
		return issuerAnswer{code: 1}
	}
	until := now + life
	if until > 100000 {
		until = 100000
	}
	return modelGive(s, []impl.Link{{Who: name, To: to, Serial: s.Next, From: now, Until: until}}, true)
}

func modelHop(s impl.Issuer, l []impl.Link, to string, now, life int) issuerAnswer {
	if !modelGoodIssuer(s) || !modelGoodToken(l) || !nameForm.MatchString(to) || now < 0 || now > 100000 || life < 0 || life > 100000 {
		return issuerAnswer{code: 1}
	}
	longer, good := modelExtend(l, to, s.Next, now, life)
	return modelGive(s, longer, good)
}

// modelGive asks the work of the last link, which stands there even if the token is none for another reason.
func modelGive(s impl.Issuer, l []impl.Link, good bool) issuerAnswer {
	m, giver := modelIssuer(s), l[len(l)-1].Who
	if !m.works[giver].Live {
		return issuerAnswer{s: s, code: 3}
	}
	m.works[giver] = impl.Work{Name: giver, Live: true, Serial: m.next}
	m.next++
	m.signed = append(m.signed, modelTokenText(l))
	if m.next > 100000 || len(m.signed) > 200 || !good {
		return issuerAnswer{s: s, code: 4}
	}
	return issuerAnswer{s: m.told(), l: l}
}

func modelRevoke(s impl.Issuer, name string) issuerAnswer {
	if !modelGoodIssuer(s) || !nameForm.MatchString(name) {
		return issuerAnswer{code: 1}
	}
	m := modelIssuer(s)
	w := m.works[name]
	if !w.Live {
		return issuerAnswer{s: s, n: len(s.Revoked), code: 3}
	}
	w.Live = false
	m.works[name] = w
	m.revoked[w.Serial] = true
	delete(m.revoked, 0)
	return issuerAnswer{s: m.told(), n: len(m.revoked)}
}

func modelSerial(s impl.Issuer, name string) (int, bool) {
	w, there := modelIssuer(s).works[name]
	if !there || !modelGoodIssuer(s) {
		return 0, false
	}
	return w.Serial, true
}

func sameIssuer(a, b impl.Issuer) bool {
	return a.Next == b.Next && slices.Equal(a.Works, b.Works) && slices.Equal(a.Revoked, b.Revoked) && slices.Equal(a.Signed, b.Signed)
}

func sameAnswer(a, b issuerAnswer) bool {
	return sameIssuer(a.s, b.s) && slices.Equal(a.l, b.l) && a.n == b.n && a.code == b.code
}

func askEnrol(s impl.Issuer, name string) issuerAnswer {
	after, code := impl.EnrolWork(s, name)
	return issuerAnswer{s: after, code: code}
}

func askIssue(s impl.Issuer, name, to string, now, life int) issuerAnswer {
	after, l, code := impl.IssueToken(s, name, to, now, life)
	return issuerAnswer{s: after, l: l, code: code}
}

func askHop(s impl.Issuer, l []impl.Link, to string, now, life int) issuerAnswer {
	after, longer, code := impl.HopToken(s, l, to, now, life)
	return issuerAnswer{s: after, l: longer, code: code}
}

func askRevoke(s impl.Issuer, name string) issuerAnswer {
	after, n, code := impl.RevokeWork(s, name)
	return issuerAnswer{s: after, n: n, code: code}
}

// same holds an answer against the one that is asked, and hands it on.
func same(t *testing.T, what string, got, want issuerAnswer) issuerAnswer {
	t.Helper()
	if !sameAnswer(got, want) {
		t.Fatalf("%s: %s, asked: %s", what, short(got), short(want))
	}
	return got
}

func workOf(name string, live bool, serial int) impl.Work {
	return impl.Work{Name: name, Live: live, Serial: serial}
}

// crowd tells n live works that rise.
func crowd(n int) []impl.Work {
	var works []impl.Work
	for i := range n {
		works = append(works, workOf(fmt.Sprintf("p/w%02d", i), true, 0))
	}
	return works
}

// randomIssuer tells a good issuer; its names are few, so that most of what is asked of it is there.
func randomIssuer(rnd *rand.Rand) impl.Issuer {
	s := impl.Issuer{Next: 1 + rnd.IntN(30), Signed: make([]string, rnd.IntN(6))}
	if rnd.IntN(6) == 0 {
		s.Next = 100000 - rnd.IntN(3)
	}
	if rnd.IntN(6) == 0 {
		s.Signed = make([]string, 200-rnd.IntN(3))
	}
	for _, name := range slices.Sorted(slices.Values(someNames)) {
		if rnd.IntN(4) > 0 {
			s.Works = append(s.Works, workOf(name, rnd.IntN(4) > 0, rnd.IntN(min(s.Next, 5))))
		}
	}
	if rnd.IntN(6) == 0 {
		s.Works = append(s.Works, crowd(20-len(s.Works))...)
		slices.SortFunc(s.Works, func(a, b impl.Work) int { return strings.Compare(a.Name, b.Name) })
	}
	for n := 1; n < min(s.Next, 8); n++ {
		if rnd.IntN(3) == 0 {
			s.Revoked = append(s.Revoked, n)
		}
	}
	return s
}
