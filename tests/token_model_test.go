package tests

import (
	"fmt"
	"math/big"
	"math/rand/v2"
	"regexp"
	"strings"

	"loop.example/g00167/impl"
)

// The model reads a token as one text, by a regular expression and by great integers; it calls nothing of the program.

var linkForm = regexp.MustCompile(`^([a-z0-9]{1,8}/[a-z0-9]{1,8}) ([a-z0-9]{1,8}/[a-z0-9]{1,8}) (0|[1-9][0-9]*) (0|[1-9][0-9]*) (0|[1-9][0-9]*)$`)

// numberUpTo tells a number that is at most most; what is beyond is -1, however many digits it has.
func numberUpTo(s string, most int64) int {
	n, ok := new(big.Int).SetString(s, 10)
	if !ok || n.Cmp(big.NewInt(most)) > 0 {
		return -1
	}
	return int(n.Int64())
}

func modelLinks(s string) ([]impl.Link, bool) {
	pieces := strings.Split(s, ";")
	last := len(pieces) - 1
	if pieces[last] != "" || last < 1 || last > 6 {
		return nil, false
	}
	var l []impl.Link
	for _, piece := range pieces[:last] {
		m := linkForm.FindStringSubmatch(piece)
		if m == nil {
			return nil, false
		}
		k := impl.Link{Who: m[1], To: m[2], Serial: numberUpTo(m[3], 100000), From: numberUpTo(m[4], 100000), Until: numberUpTo(m[5], 100000)}
		if k.Serial < 1 || k.From < 0 || k.Until < k.From {
			return nil, false
		}
		if len(l) > 0 && l[len(l)-1].To != k.Who {
			return nil, false
		}
		l = append(l, k)
	}
	return l, true
}

func modelTokenText(l []impl.Link) string {
	var text strings.Builder
	for _, k := range l {
		fmt.Fprintf(&text, "%s %s %d %d %d;", k.Who, k.To, k.Serial, k.From, k.Until)
	}
	return text.String()
}

// A name with a blank in it could make a text of a token that is none, so each name is asked for by itself.
func modelGoodToken(l []impl.Link) bool {
	for _, k := range l {
		if !nameForm.MatchString(k.Who) || !nameForm.MatchString(k.To) {
			return false
		}
	}
	_, ok := modelLinks(modelTokenText(l))
	return ok
}

func modelExtend(l []impl.Link, to string, serial, now, life int) ([]impl.Link, bool) {
	for _, n := range []int{now, life} {
		if n < 0 || n > 100000 {
			return nil, false
		}
	}
	if !modelGoodToken(l) {
		return nil, false
	}
	last := l[len(l)-1]
	until := last.Until
	if now+life < until {
		until = now + life
	}
	longer := append(append([]impl.Link{}, l...), impl.Link{Who: last.To, To: to, Serial: serial, From: now, Until: until})
	return longer, modelGoodToken(longer)
}

func modelCheck(l []impl.Link, signed []string, now int, revoked []int, at string) int {
	if !modelGoodToken(l) || now < 0 || now > 100000 || !nameForm.MatchString(at) || len(signed) > 200 || len(revoked) > 200 {
		return 1
	}
	has, gone := map[string]bool{}, map[int]bool{}
	for _, s := range signed {
		has[s] = true
	}
	for _, n := range revoked {
		gone[n] = true
	}
	codes := map[int]bool{0: true}
	for i, k := range l {
		codes[2] = codes[2] || !has[modelTokenText(l[:i+1])]
		codes[3] = codes[3] || now < k.From || now > k.Until
		codes[4] = codes[4] || gone[k.Serial]
		codes[5] = i == len(l)-1 && k.To != at
	}
	for code := 2; code <= 5; code++ {
		if codes[code] {
			return code
		}
	}
	return 0
}

func linkOf(who, to string, serial, from, until int) impl.Link {
	return impl.Link{Who: who, To: to, Serial: serial, From: from, Until: until}
}

// chainOf tells a good token of n links (n up to MaxLinks and beyond: then one that is too long).
func chainOf(n int) []impl.Link {
	var l []impl.Link
	for i := range n {
		l = append(l, impl.Link{Who: fmt.Sprintf("p/w%d", i), To: fmt.Sprintf("p/w%d", i+1), Serial: 10 + i, From: 5 + i, Until: 100 - i})
	}
	return l
}

var someNames = []string{"a/b", "p/web", "prod/db", "0/9", "a1b2c3d4/z9y8x7w6"}

// randomToken's names and serials are few, so that a token often comes back to one that it had.
func randomToken(rnd *rand.Rand, n int) []impl.Link {
	var l []impl.Link
	who := someNames[rnd.IntN(len(someNames))]
	for range n {
		from := rnd.IntN(30)
		k := impl.Link{Who: who, To: someNames[rnd.IntN(len(someNames))], Serial: 1 + rnd.IntN(20), From: from, Until: from + rnd.IntN(30)}
		if rnd.IntN(8) == 0 {
			k.Serial, k.Until = 100000-rnd.IntN(2), 100000-rnd.IntN(2)
		}
		l = append(l, k)
		who = k.To
	}
	return l
}

func modelSigned(l []impl.Link) []string {
	var texts []string
	for i := range l {
		texts = append(texts, modelTokenText(l[:i+1]))
	}
	return texts
}
