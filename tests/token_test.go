package tests

import (
	"fmt"
	"math"
	"slices"
	"strings"
	"testing"

	"loop.example/g00167/impl"
)

var twoHops = []impl.Link{
	{Who: "p/a", To: "p/b", Serial: 3, From: 2, Until: 9},
	{Who: "p/b", To: "p/c", Serial: 4, From: 5, Until: 9},
}

const twoHopsText = "p/a p/b 3 2 9;p/b p/c 4 5 9;"

func TestTokenConstants(t *testing.T) {
	got := []int{impl.MaxLinks, impl.MaxTime, impl.TokenOk, impl.TokenForm, impl.TokenSigned, impl.TokenTime, impl.TokenRevoked, impl.TokenTo}
	if !slices.Equal(got, []int{6, 100000, 0, 1, 2, 3, 4, 5}) {
		t.Error(got)
	}
}

// checkToken asks all that is told of a token alone; want is what the document says of it.
func checkToken(t *testing.T, l []impl.Link, want bool) {
	t.Helper()
	if got := modelGoodToken(l); got != want {
		t.Errorf("the model tells %v of %s", got, short(l))
	}
	if got := impl.GoodToken(l); got != want {
		t.Errorf("GoodToken(%s) = %v", short(l), got)
	}
	var text string
	var signed, callers []string
	if want {
		text, signed = modelTokenText(l), modelSigned(l)
		for _, k := range l {
			callers = append(callers, k.Who)
		}
	}
	if got, ok := impl.TokenText(l); got != text || ok != want {
		t.Errorf("TokenText(%s) = %.300q, %v", short(l), got, ok)
	}
	if got, ok := impl.SignedOf(l); !slices.Equal(got, signed) || ok != want {
		t.Errorf("SignedOf(%s) = %q, %v", short(l), got, ok)
	}
	if got, ok := impl.CallersOf(l); !slices.Equal(got, callers) || ok != want {
		t.Errorf("CallersOf(%s) = %q, %v", short(l), got, ok)
	}
	checkTokenText(t, modelTokenText(l))
	longer, longerGood := modelExtend(l, "p/z", 77, 5, 20)
	if !longerGood {
		longer = nil
	}
	if got, ok := impl.ExtendToken(l, "p/z", 77, 5, 20); ok != longerGood || !slices.Equal(got, longer) {
		t.Errorf("ExtendToken(%s) = %v, %v", short(l), got, ok)
	}
	code := impl.CheckToken(l, modelSigned(l), 0, nil, "p/z")
	if code != modelCheck(l, modelSigned(l), 0, nil, "p/z") || (code == impl.TokenForm) == want {
		t.Errorf("CheckToken(%s) = %v", short(l), code)
	}
}

func TestTokenOrdinary(t *testing.T) {
	checkToken(t, twoHops[:1], true)
	checkToken(t, twoHops, true)
	if s, ok := impl.TokenText(twoHops); s != twoHopsText || !ok {
		t.Errorf("%q, %v", s, ok)
	}
	if l, ok := impl.ReadToken(twoHopsText); !slices.Equal(l, twoHops) || !ok {
		t.Error(l, ok)
	}
	if l, ok := impl.SignedOf(twoHops); !slices.Equal(l, []string{"p/a p/b 3 2 9;", twoHopsText}) || !ok {
		t.Error(l, ok)
	}
	if l, ok := impl.CallersOf(twoHops); !slices.Equal(l, []string{"p/a", "p/b"}) || !ok {
		t.Error(l, ok)
	}
}

func TestMaxLinksMet(t *testing.T) {
	for n := range 12 {
		checkToken(t, chainOf(n), n >= 1 && n <= 6)
	}
	checkToken(t, []impl.Link{}, false)
	checkToken(t, make([]impl.Link, 1), false)
	checkToken(t, make([]impl.Link, 6), false)
	for n := 1; n <= 8; n++ {
		l, ok := impl.ReadToken(modelTokenText(chainOf(n)))
		if ok != (n <= 6) || ok && !slices.Equal(l, chainOf(n)) || !ok && len(l) != 0 {
			t.Error(n, l, ok)
		}
		l, ok = impl.ExtendToken(chainOf(n), "p/z", 1, 50, 10)
		if ok != (n < 6) || ok && len(l) != n+1 || !ok && len(l) != 0 {
			t.Error(n, l, ok)
		}
	}
}

func TestTimesAndSerialsMet(t *testing.T) {
	numbers := []int{math.MinInt, -100000, -1, 0, 1, 2, 50, 99999, 100000, 100001, 1 << 32, 1<<32 + 1, 1 << 53, math.MaxInt - 1, math.MaxInt}
	for _, a := range numbers {
		for n := 1; n <= 6; n++ {
			for i := range n {
				l := chainOf(n)
				l[i].Serial = a
				checkToken(t, l, a >= 1 && a <= 100000)
			}
		}
		for _, b := range numbers {
			for i := range 3 {
				l := chainOf(3)
				l[i].From, l[i].Until = a, b
				checkToken(t, l, a >= 0 && b <= 100000 && a <= b)
			}
		}
	}
}

func TestSerialsAndTimesNeedNoOrder(t *testing.T) {
	checkToken(t, []impl.Link{linkOf("p/a", "p/b", 9, 50, 60), linkOf("p/b", "p/a", 9, 0, 10), linkOf("p/a", "p/a", 1, 70, 100000)}, true)
}

func TestTokenNames(t *testing.T) {
	for _, name := range append([]string{"p/a p/b", "p/a;", "p/b 3 2 9;p/b p/c"}, nearTexts...) {
		good := nameForm.MatchString(name)
		for n := 1; n <= 6; n++ {
			for i := range n {
				l := chainOf(n)
				l[i].To = name
				if i+1 < n {
					l[i+1].Who = name
				}
				checkToken(t, l, good)
			}
			l := chainOf(n)
			l[0].Who = name
			checkToken(t, l, good)
		}
	}
}

func TestEachToIsTheNextWho(t *testing.T) {
	for n := 2; n <= 6; n++ {
		for i := 1; i < n; i++ {
			for _, name := range []string{"p/x", "p/w", "p/w0", "x/" + fmt.Sprint("w", i), fmt.Sprint("p/w", i, "0")} {
				l := chainOf(n)
				l[i].Who = name
				checkToken(t, l, false)
				l = chainOf(n)
				l[i-1].To = name
				checkToken(t, l, false)
			}
		}
	}
}

func checkTokenText(t *testing.T, s string) {
	t.Helper()
	want, good := modelLinks(s)
	if !good {
		want = nil
	}
	got, ok := impl.ReadToken(s)
	if ok != good || !slices.Equal(got, want) {
		t.Errorf("ReadToken(%.300q) = %v, %v; asked: %v, %v", s, got, ok, want, good)
	}
	if back, is := impl.TokenText(got); ok && (!is || back != s) {
		t.Errorf("%.300q came back as %q, %v", s, back, is)
	}
}

func TestReadTokenWrong(t *testing.T) {
	long := strings.Repeat("9", 400)
	for _, s := range []string{
		"", " ", ";", ";;", "     ;", "    ;", "x", "x;", "0;",
		"p/a p/b 3 2 9", "p/a p/b 3 2 9;;", ";p/a p/b 3 2 9;", "p/a p/b 3 2 9; ", " p/a p/b 3 2 9;", "p/a p/b 3 2 9 ;", "p/a  p/b 3 2 9;", "p/a p/b 3 2  9;",
		"p/a p/b 3 2;", "p/a p/b 3 2 9 9;", "p/ap/b 3 2 9;", "p/a p/b 3\t2 9;", "p/a p/b 3 2 9\n;", "p/a p/b 3 2 9;\n", "p/a p/b 3 2 9,",
		"p/a p/b +3 2 9;", "p/a p/b 3 +2 9;", "p/a p/b 3 2 +9;", "p/a p/b -3 2 9;", "p/a p/b 3 -2 9;", "p/a p/b 3 2 -9;", "p/a p/b 3 -0 9;", "p/a p/b 3 - 9;",
		"p/a p/b 03 2 9;", "p/a p/b 3 02 9;", "p/a p/b 3 2 09;", "p/a p/b 3 00 9;", "p/a p/b 3 2 ;", "p/a p/b  2 9;",
		"p/a p/b 0x3 2 9;", "p/a p/b 3 2 1_0;", "p/a p/b 3 2 9.0;", "p/a p/b 3 2 1e3;", "p/a p/b 3 ٢ 9;",
		"p/a p/b 0 2 9;", "p/a p/b 100001 2 9;", "p/a p/b 3 9 2;", "p/a p/b 3 100001 100001;", "p/a p/b 3 2 100001;",
		"p/a p/b 3 2 9223372036854775807;", "p/a p/b 3 2 9223372036854775808;", "p/a p/b 3 2 18446744073709551625;", "p/a p/b 18446744073709551619 2 9;", "p/a p/b 4294967299 2 9;",
		"p/a p/b " + long + " 2 9;", "p/a p/b 3 " + long + " 9;", "p/a p/b 3 2 " + long + ";",
		"p p/b 3 2 9;", "p/a /b 3 2 9;", "p/* p/b 3 2 9;", "p/a */* 3 2 9;", "P/a p/b 3 2 9;", "p/a p/b/c 3 2 9;",
		"p/a p/b 3 2 9;p/c p/d 4 5 9;", "p/a p/b 3 2 9;p/b p/c 4 5 9", "p/a p/b 3 2 9 p/b p/c 4 5 9;", "p/a p/b 3 2 9;p/b p/c 4 5 9;;", "p/a p/b 3 2 9;;p/b p/c 4 5 9;",
		strings.Repeat("p/a p/a 1 0 0;", 7), strings.Repeat("p/a p/a 1 0 0;", 100000), strings.Repeat(";", 100000), strings.Repeat(" ", 100000),
	} {
		if l, ok := impl.ReadToken(s); ok || len(l) != 0 {
			t.Errorf("ReadToken(%.60q) = %v, %v", s, l, ok)
		}
		checkTokenText(t, s)
	}
}

func TestReadTokenEdges(t *testing.T) {
	for _, s := range []string{
		"p/a p/b 1 0 0;", "p/a p/b 100000 100000 100000;", "p/a p/b 1 0 100000;", "p/a p/a 1 7 7;", strings.Repeat("p/a p/a 1 0 0;", 6), strings.Repeat("a1b2c3d4/a1b2c3d4 a1b2c3d4/a1b2c3d4 100000 0 100000;", 6),
	} {
		if l, ok := impl.ReadToken(s); !ok || len(l) != strings.Count(s, ";") {
			t.Errorf("ReadToken(%q) = %v, %v", s, l, ok)
		}
		checkTokenText(t, s)
	}
}

func TestReadTokenEachByteChanged(t *testing.T) {
	for _, s := range []string{twoHopsText, "p/a p/b 100000 99999 100000;", "a1b2c3d4/b b/a1b2c3d4 10 0 0;b/a1b2c3d4 c/c 1 1 1;", modelTokenText(chainOf(6))} {
		for i := range len(s) {
			checkTokenText(t, s[:i])
			checkTokenText(t, s[i:])
			checkTokenText(t, s[:i]+s[i+1:])
			for b := range 256 {
				checkTokenText(t, s[:i]+string([]byte{byte(b)})+s[i+1:])
				checkTokenText(t, s[:i]+string([]byte{byte(b)})+s[i:])
			}
		}
	}
}

func TestExtendTokenOrdinary(t *testing.T) {
	one := twoHops[:1]
	for _, c := range []struct{ now, life, until int }{
		{5, 20, 9}, // behind the last Until
		{5, 5, 9},  // one behind
		{5, 4, 9},  // at it
		{5, 3, 8},  // one before
		{5, 0, 5},  // no life at all
		{2, 3, 5},
		{0, 1, 1}, // now may be ahead of the last From
		{0, 0, 0},
		{9, 0, 9},
		{9, 100000, 9}, // now at the last Until
		{8, 1, 9},
		{0, 100000, 9},
	} {
		want := append(slices.Clone(one), impl.Link{Who: "p/b", To: "p/c", Serial: 4, From: c.now, Until: c.until})
		if l, ok := impl.ExtendToken(one, "p/c", 4, c.now, c.life); !slices.Equal(l, want) || !ok {
			t.Errorf("now %v, life %v: %v, %v", c.now, c.life, l, ok)
		}
	}
	for _, c := range []struct{ now, life int }{{10, 0}, {10, 5}, {100000, 100000}, {-1, 5}, {100001, 0}, {5, -1}, {5, 100001}, {math.MinInt, math.MaxInt}, {math.MaxInt, 1}, {5, math.MaxInt}, {5, math.MinInt}} {
		if l, ok := impl.ExtendToken(one, "p/c", 4, c.now, c.life); len(l) != 0 || ok {
			t.Errorf("now %v, life %v: %v, %v", c.now, c.life, l, ok)
		}
	}
}

// The last until bounds the next one, not the first one's.
func TestExtendTokenBoundByTheLast(t *testing.T) {
	l := []impl.Link{linkOf("p/a", "p/b", 1, 0, 10), linkOf("p/b", "p/c", 2, 0, 40), linkOf("p/c", "p/d", 3, 0, 20)}
	for n, until := range []int{10, 40, 20} {
		longer, ok := impl.ExtendToken(l[:n+1], "p/z", 4, 5, 1000)
		if !ok || longer[n+1] != (impl.Link{Who: l[n].To, To: "p/z", Serial: 4, From: 5, Until: until}) {
			t.Error(n, longer, ok)
		}
	}
}

func TestExtendTokenAtMaxTime(t *testing.T) {
	one := []impl.Link{linkOf("p/a", "p/b", 1, 0, 100000)}
	for _, c := range []struct{ now, life, until int }{{100000, 100000, 100000}, {100000, 0, 100000}, {99999, 1, 100000}, {99999, 2, 100000}, {0, 100000, 100000}, {1, 100000, 100000}, {0, 99999, 99999}} {
		l, ok := impl.ExtendToken(one, "p/c", 100000, c.now, c.life)
		if !ok || l[1] != (impl.Link{Who: "p/b", To: "p/c", Serial: 100000, From: c.now, Until: c.until}) {
			t.Error(c, l, ok)
		}
	}
}

func TestExtendTokenWrong(t *testing.T) {
	for _, serial := range []int{math.MinInt, -1, 0, 1, 100000, 100001, math.MaxInt} {
		l, ok := impl.ExtendToken(twoHops, "p/d", serial, 5, 1)
		if want := serial >= 1 && serial <= 100000; ok != want || !ok && len(l) != 0 {
			t.Error(serial, l, ok)
		}
	}
	for _, to := range nearTexts {
		l, ok := impl.ExtendToken(twoHops, to, 9, 5, 1)
		if want := nameForm.MatchString(to); ok != want || ok && l[2].To != to || !ok && len(l) != 0 {
			t.Errorf("to %.60q: %v, %v", to, l, ok)
		}
	}
	if l, ok := impl.ExtendToken(nil, "p/a", 1, 0, 0); ok || len(l) != 0 {
		t.Error(l, ok)
	}
	// What is no token is not made one by what is put behind.
	if l, ok := impl.ExtendToken([]impl.Link{{Who: "p/a", To: "p/b", Serial: 0, From: 0, Until: 9}}, "p/c", 1, 0, 0); ok || len(l) != 0 {
		t.Error(l, ok)
	}
}

func TestCheckTokenOrdinary(t *testing.T) {
	signed := []string{twoHopsText, "another", "p/a p/b 3 2 9;"}
	for _, c := range []struct {
		signed  []string
		now     int
		revoked []int
		at      string
		code    int
	}{
		{signed, 5, nil, "p/c", impl.TokenOk},
		{signed, 9, []int{1, 2, 5, -3, 0}, "p/c", impl.TokenOk},
		{signed[:2], 5, nil, "p/c", impl.TokenSigned},
		{signed[1:], 5, nil, "p/c", impl.TokenSigned},
		{nil, 5, nil, "p/c", impl.TokenSigned},
		{[]string{twoHopsText + "p/a p/b 3 2 9;"}, 5, nil, "p/c", impl.TokenSigned},
		{[]string{"p/a p/b 3 2 9;", "p/b p/c 4 5 9;"}, 5, nil, "p/c", impl.TokenSigned},
		{signed, 4, nil, "p/c", impl.TokenTime},
		{signed, 10, nil, "p/c", impl.TokenTime},
		{signed, 5, []int{3}, "p/c", impl.TokenRevoked},
		{signed, 5, []int{9, 8, 4}, "p/c", impl.TokenRevoked},
		{signed, 5, nil, "p/b", impl.TokenTo},
		{signed, 5, nil, "p/a", impl.TokenTo},
		{signed, 5, nil, "*/*", impl.TokenForm},
		{signed, 5, nil, "", impl.TokenForm},
		{signed, -1, nil, "p/c", impl.TokenForm},
		{signed, 100001, nil, "p/c", impl.TokenForm},
		{signed, 100000, nil, "p/c", impl.TokenTime},
		{signed, 0, nil, "p/c", impl.TokenTime},
	} {
		if code := impl.CheckToken(twoHops, c.signed, c.now, c.revoked, c.at); code != c.code {
			t.Errorf("signed %q, now %v, revoked %v, at %q: %v", c.signed, c.now, c.revoked, c.at, code)
		}
	}
}

func TestCheckTokenFromAndUntilMet(t *testing.T) {
	for n := 1; n <= 6; n++ {
		for i := range n {
			l := chainOf(n)
			for k := range l {
				l[k].From, l[k].Until = 0, 100000
			}
			l[i].From, l[i].Until = 40, 60
			for now, code := range map[int]int{0: 3, 39: 3, 40: 0, 41: 0, 59: 0, 60: 0, 61: 3, 100000: 3, -1: 1, 100001: 1} {
				if got := impl.CheckToken(l, modelSigned(l), now, nil, l[n-1].To); got != code {
					t.Errorf("link %v of %v at %v: %v", i, n, now, got)
				}
			}
		}
	}
	whole := []impl.Link{linkOf("p/a", "p/b", 1, 0, 100000)}
	for now, code := range map[int]int{0: 0, 100000: 0, -1: 1, 100001: 1, math.MinInt: 1, math.MaxInt: 1} {
		if got := impl.CheckToken(whole, modelSigned(whole), now, nil, "p/b"); got != code {
			t.Errorf("at %v: %v", now, got)
		}
	}
	// Links whose times do not meet are never in time.
	apart := []impl.Link{linkOf("p/a", "p/b", 1, 0, 10), linkOf("p/b", "p/c", 2, 12, 20)}
	for now := range 25 {
		if got := impl.CheckToken(apart, modelSigned(apart), now, nil, "p/c"); got != impl.TokenTime {
			t.Errorf("at %v: %v", now, got)
		}
	}
}

func TestCheckTokenListsMet(t *testing.T) {
	texts := modelSigned(twoHops)
	for n := 198; n <= 203; n++ {
		signed := append(slices.Repeat([]string{"x"}, n-2), texts...)
		revoked := append(slices.Repeat([]int{7}, n-1), 4)
		kept := slices.Repeat([]int{7}, n)
		for _, c := range []struct {
			signed  []string
			revoked []int
			code    int
		}{{signed, nil, impl.TokenOk}, {texts, kept, impl.TokenOk}, {signed, kept, impl.TokenOk}, {signed, revoked, impl.TokenRevoked}, {texts, revoked, impl.TokenRevoked}, {signed[:n-1], kept[:1], impl.TokenSigned}} {
			want := c.code
			if len(c.signed) > 200 || len(c.revoked) > 200 {
				want = impl.TokenForm
			}
			if got := impl.CheckToken(twoHops, c.signed, 5, c.revoked, "p/c"); got != want {
				t.Errorf("%v signed, %v revoked: %v", len(c.signed), len(c.revoked), got)
			}
		}
	}
}

// All sets of faults at once: the code of the first one in the document's order is told.
func TestCheckTokenCodesInOrder(t *testing.T) {
	for forms := range 1 << 5 {
		for rest := range 1 << 4 {
			l, now, revoked, at := chainOf(4), 50, []int{1, 2}, "p/w4"
			want := impl.TokenOk
			if rest&1 != 0 {
				at, want = "p/w3", impl.TokenTo
			}
			if rest&2 != 0 {
				revoked, want = append(revoked, 12), impl.TokenRevoked
			}
			if rest&4 != 0 {
				now, want = 4, impl.TokenTime
			}
			signed := modelSigned(l)
			if rest&8 != 0 {
				signed, want = slices.Delete(signed, 1, 2), impl.TokenSigned
			}
			if forms != 0 {
				want = impl.TokenForm
			}
			if forms&1 != 0 {
				l[2].Serial = 0
			}
			if forms&2 != 0 {
				now = 100001
			}
			if forms&4 != 0 {
				at = "p"
			}
			if forms&8 != 0 {
				signed = append(signed, make([]string, 200)...)
			}
			if forms&16 != 0 {
				revoked = append(revoked, make([]int, 200)...)
			}
			if got := impl.CheckToken(l, signed, now, revoked, at); got != want {
				t.Errorf("faults %05b %04b: %v, asked: %v", forms, rest, got, want)
			}
		}
	}
}
