package tests

import (
	"regexp"
	"strings"
	"testing"

	"loop.example/g00167/impl"
)

type goodTest struct {
	what string
	is   func(string) bool
	form *regexp.Regexp
}

var goodTests = []goodTest{
	{"GoodPath", impl.GoodPath, pathForm},
	{"GoodName", impl.GoodName, nameForm},
	{"GoodPathPattern", impl.GoodPathPattern, pathPatternForm},
	{"GoodNamePattern", impl.GoodNamePattern, namePatternForm},
}

// texts that are good of one kind or nearly so; the tests of wrong inputs change and pair them
var nearTexts = []string{
	"", "/", "//", "*", "**", "***", "/*", "/**", "/***", "/**/", "/**/a", "/**/**", "/*/**", "/a/**/*",
	"a", "/a", "a/", "/a/", "//a", "/a//b", "a/b", "a/b/c", "/a/b", "*/b", "a/*", "*/*", "**/b", "a/**", "a*/b", "/a*", "/*a", "/a/b*",
	"/A", "/a-b", "/a b", " /a", "/a ", "/a\n", "/a\x00", "/\xff", "/ä", "dev/ä", "Dev/web", "dev/web", "dev/web ", "dev/web\n",
	"/a1b2c3d4", "/a1b2c3d4e", "a1b2c3d4/z9y8x7w6", "a1b2c3d4e/b", "b/a1b2c3d4e",
	"/a/b/c/d/e/f", "/a/b/c/d/e/f/g", "/a/b/c/d/e/**", "/a/b/c/d/e/f/**", "/*/*/*/*/*/*", "/*/*/*/*/*/**", "/*/*/*/*/*/*/**", "/*/*/*/*/*/*/*",
	strings.Repeat("/a", 1000), strings.Repeat("a", 100000), strings.Repeat("/", 100000), "/" + strings.Repeat("*", 1000),
}

func TestMaxWords(t *testing.T) {
	if impl.MaxWords != 6 {
		t.Error(impl.MaxWords)
	}
}

func TestGoodOrdinary(t *testing.T) {
	for _, c := range []struct {
		s                                    string
		path, name, pathPattern, namePattern bool
	}{
		{"/", true, false, true, false},
		{"/a", true, false, true, false},
		{"/shop/cart/7", true, false, true, false},
		{"/a1b2c3d4", true, false, true, false},
		{"/a1b2c3d4e", false, false, false, false},
		{"/a/b/c/d/e/f", true, false, true, false},
		{"/a/b/c/d/e/f/g", false, false, false, false},
		{"/shop/*", false, false, true, false},
		{"/*/cart/**", false, false, true, false},
		{"/**", false, false, true, false},
		{"/a/b/c/d/e/**", false, false, true, false},
		{"/a/b/c/d/e/f/**", false, false, false, false},
		{"/**/a", false, false, false, false},
		{"dev/web", false, true, false, true},
		{"0/9", false, true, false, true},
		{"a1b2c3d4/z9y8x7w6", false, true, false, true},
		{"a1b2c3d4e/b", false, false, false, false},
		{"dev/*", false, false, false, true},
		{"*/*", false, false, false, true},
		{"dev/**", false, false, false, false},
		{"/dev/web/", false, false, false, false},
		{"dev", false, false, false, false},
		{"dev/web/a", false, false, false, false},
		{"", false, false, false, false},
	} {
		if got := impl.GoodPath(c.s); got != c.path {
			t.Errorf("GoodPath(%q) = %v", c.s, got)
		}
		if got := impl.GoodName(c.s); got != c.name {
			t.Errorf("GoodName(%q) = %v", c.s, got)
		}
		if got := impl.GoodPathPattern(c.s); got != c.pathPattern {
			t.Errorf("GoodPathPattern(%q) = %v", c.s, got)
		}
		if got := impl.GoodNamePattern(c.s); got != c.namePattern {
			t.Errorf("GoodNamePattern(%q) = %v", c.s, got)
		}
	}
}

func checkGood(t *testing.T, s string) {
	for _, g := range goodTests {
		if got, want := g.is(s), g.form.MatchString(s); got != want {
			t.Errorf("%s(%.60q) = %v, the document asks %v", g.what, s, got, want)
		}
	}
}

func TestGoodAllShortTexts(t *testing.T) {
	for _, s := range textsOf("/*az09", 6) {
		checkGood(t, s)
	}
}

func TestGoodEachByteChanged(t *testing.T) {
	for _, s := range nearTexts {
		checkGood(t, s)
		if len(s) > 40 {
			continue
		}
		for i := range len(s) {
			checkGood(t, s[:i]+s[i+1:])
			for b := range 256 {
				checkGood(t, s[:i]+string([]byte{byte(b)})+s[i+1:])
				checkGood(t, s[:i]+string([]byte{byte(b)})+s[i:])
			}
		}
	}
}

func TestGoodWordLengths(t *testing.T) {
	for n := range 20 {
		w := strings.Repeat("z", n)
		for _, s := range []string{"/" + w, "/a/" + w, "/" + w + "/**", w + "/a", "a/" + w, "*/" + w, w + "/*"} {
			checkGood(t, s)
		}
	}
}

func TestMatchPathOrdinary(t *testing.T) {
	for _, c := range []struct {
		pattern, path string
		want          bool
	}{
		{"/", "/", true},
		{"/", "/a", false},
		{"/**", "/", true},
		{"/**", "/a", true},
		{"/**", "/a/b/c/d/e/f", true},
		{"/*", "/", false},
		{"/*", "/a", true},
		{"/*", "/a/b", false},
		{"/a", "/", false},
		{"/a", "/a", true},
		{"/a", "/ab", false},
		{"/ab", "/a", false},
		{"/a/*", "/a/b", true},
		{"/a/*", "/a", false},
		{"/a/*", "/a/b/a", false},
		{"/a/**", "/a", true},
		{"/a/**", "/a/b/c", true},
		{"/a/**", "/b", false},
		{"/a/**", "/", false},
		{"/a/*/**", "/a", false},
		{"/a/*/**", "/a/b", true},
		{"/a/b/c/d/e/f", "/a/b/c/d/e/f", true},
		{"/a/b/c/d/e/f", "/a/b/c/d/e/g", false},
		{"/a/b/c/d/e/**", "/a/b/c/d/e", true},
		{"/a/b/c/d/e/**", "/a/b/c/d/e/f", true},
		{"/a/b/c/d/e/**", "/a/b/c/d", false},
		{"/a/b/c/d/e/**", "/a/b/c/d/e/f/g", false},
		{"/**", "/a/b/c/d/e/f/g", false},
		{"/**", "/*", false},
		{"/**", "/**", false},
		{"/*", "/*", false},
		{"/a/", "/a/", false},
		{"/**/a", "/a", false},
		{"", "", false},
	} {
		if got := impl.MatchPath(c.pattern, c.path); got != c.want {
			t.Errorf("MatchPath(%q, %q) = %v", c.pattern, c.path, got)
		}
	}
}

func TestMatchPathAll(t *testing.T) {
	patterns, paths := patternsOf([]string{"a"}, 6), pathsOf([]string{"a", "b"}, 6)
	for _, pattern := range patterns {
		m := matcherOf(pattern)
		for _, path := range paths {
			want := m.MatchString(strings.TrimSuffix(path, "/"))
			if got := impl.MatchPath(pattern, path); got != want {
				t.Fatalf("MatchPath(%q, %q) = %v", pattern, path, got)
			}
		}
	}
}

// matchedBy asks the model alone, so that what covers and what meets is held against paths, not against the program's own matching.
func matchedBy(patterns, paths []string) [][]bool {
	var all [][]bool
	for _, pattern := range patterns {
		m := matcherOf(pattern)
		is := make([]bool, len(paths))
		for i, path := range paths {
			is[i] = m.MatchString(strings.TrimSuffix(path, "/"))
		}
		all = append(all, is)
	}
	return all
}

func coverAndMeet(a, b []bool) (bool, bool) {
	cover, meet := true, false
	for i := range a {
		cover = cover && (a[i] || !b[i])
		meet = meet || a[i] && b[i]
	}
	return cover, meet
}

func checkCoverAndMeet(t *testing.T, words, wordsOfPaths []string, most int) {
	patterns, paths := patternsOf(words, most), pathsOf(wordsOfPaths, 6)
	matched := matchedBy(patterns, paths)
	for i, a := range patterns {
		for j, b := range patterns {
			cover, meet := coverAndMeet(matched[i], matched[j])
			if got, ok := impl.CoversPath(a, b); got != cover || !ok {
				t.Fatalf("CoversPath(%q, %q) = %v, %v", a, b, got, ok)
			}
			if got, ok := impl.MeetPath(a, b); got != meet || !ok {
				t.Fatalf("MeetPath(%q, %q) = %v, %v", a, b, got, ok)
			}
		}
	}
}

// The paths have a word that no pattern has: what one star covers no word does.
func TestCoverAndMeetUpToSixWords(t *testing.T) {
	checkCoverAndMeet(t, []string{"a"}, []string{"a", "z"}, 6)
}

func TestCoverAndMeetOfTwoWords(t *testing.T) {
	checkCoverAndMeet(t, []string{"a", "b"}, []string{"a", "b", "z"}, 3)
}

func TestCoverAndMeetEdges(t *testing.T) {
	for _, c := range []struct {
		a, b        string
		cover, meet bool
	}{
		{"/", "/", true, true},
		{"/**", "/", true, true},
		{"/", "/**", false, true},
		{"/**", "/**", true, true},
		{"/*", "/**", false, true},
		{"/**", "/*", true, true},
		{"/*", "/", false, false},
		{"/a/**", "/a", true, true},
		{"/a", "/a/**", false, true},
		{"/a/**", "/", false, false},
		{"/a/**", "/*/b/**", false, true},
		{"/a/**", "/b/**", false, false},
		{"/*/*/*/*/*/*", "/a/b/c/d/e/f", true, true},
		{"/*/*/*/*/*/**", "/a/b/c/d/e/f", true, true},
		{"/*/*/*/*/*/**", "/*/*/*/*/*/*", true, true},
		{"/*/*/*/*/*/*", "/*/*/*/*/*/**", false, true},
		{"/a/b/c/d/e/**", "/a/b/c/d/e", true, true},
		{"/a/b/c/d/e/**", "/a/b/c/d", false, false},
		{"/a/b/c/d/e/f", "/a/b/c/d/e/g", false, false},
		{"/a1b2c3d4", "/a1b2c3d", false, false},
	} {
		if got, ok := impl.CoversPath(c.a, c.b); got != c.cover || !ok {
			t.Errorf("CoversPath(%q, %q) = %v, %v", c.a, c.b, got, ok)
		}
		if got, ok := impl.MeetPath(c.a, c.b); got != c.meet || !ok {
			t.Errorf("MeetPath(%q, %q) = %v, %v", c.a, c.b, got, ok)
		}
	}
}

// The first promise in its own words, on the program's answers alone.
func TestPromise1(t *testing.T) {
	patterns, paths := patternsOf([]string{"a", "b"}, 3), pathsOf([]string{"a", "b", "z"}, 4)
	for _, a := range patterns {
		for _, b := range patterns {
			covers, _ := impl.CoversPath(a, b)
			meet, _ := impl.MeetPath(a, b)
			for _, p := range paths {
				byA, byB := impl.MatchPath(a, p), impl.MatchPath(b, p)
				if covers && byB && !byA {
					t.Fatalf("%q covers %q, but does not match %q", a, b, p)
				}
				if byA && byB && !meet {
					t.Fatalf("%q and %q match %q, but do not meet", a, b, p)
				}
			}
		}
	}
}

func TestNamesAll(t *testing.T) {
	patterns, names := pairsOf([]string{"*", "a", "b"}), pairsOf([]string{"a", "b", "z"})
	var matched [][]bool
	for _, p := range patterns {
		m := regexp.MustCompile("^" + strings.ReplaceAll(p, "*", wordForm) + "$")
		is := make([]bool, len(names))
		for i, n := range names {
			is[i] = m.MatchString(n)
			if got := impl.MatchName(p, n); got != is[i] {
				t.Errorf("MatchName(%q, %q) = %v", p, n, got)
			}
		}
		matched = append(matched, is)
	}
	for i, a := range patterns {
		for j, b := range patterns {
			cover, _ := coverAndMeet(matched[i], matched[j])
			if got, ok := impl.CoversName(a, b); got != cover || !ok {
				t.Errorf("CoversName(%q, %q) = %v, %v", a, b, got, ok)
			}
		}
	}
}

func TestNamesEdges(t *testing.T) {
	if !impl.MatchName("a1b2c3d4/*", "a1b2c3d4/z9y8x7w6") || impl.MatchName("a1b2c3d4/*", "a1b2c3d/z9y8x7w6") {
		t.Error("words of eight and of seven")
	}
	for _, n := range []string{"*/b", "a/*", "*/*", "a", "a/b/c", "/a/b", "", "a/", "/b"} {
		if impl.MatchName("*/*", n) {
			t.Errorf("%q is no name", n)
		}
	}
}
