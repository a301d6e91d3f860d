package tests

import (
	"testing"

	"loop.example/g00167/impl"
)

// checkPair asks every function of two texts: it answers, and what is no path, no name, no pattern has the zero answer.
func checkPair(t *testing.T, a, b string) {
	checkGood(t, a)
	checkGood(t, b)
	pathPatterns := pathPatternForm.MatchString(a) && pathPatternForm.MatchString(b)
	namePatterns := namePatternForm.MatchString(a) && namePatternForm.MatchString(b)
	if got, want := impl.MatchPath(a, b), modelMatchPath(a, b); got != want {
		t.Errorf("MatchPath(%.60q, %.60q) = %v", a, b, got)
	}
	if got := impl.MatchName(a, b); got && !(namePatterns && nameForm.MatchString(b)) {
		t.Errorf("MatchName(%.60q, %.60q) = %v", a, b, got)
	}
	if is, ok := impl.CoversPath(a, b); ok != pathPatterns || is && !ok {
		t.Errorf("CoversPath(%.60q, %.60q) = %v, %v", a, b, is, ok)
	}
	if is, ok := impl.MeetPath(a, b); ok != pathPatterns || is && !ok {
		t.Errorf("MeetPath(%.60q, %.60q) = %v, %v", a, b, is, ok)
	}
	if is, ok := impl.CoversName(a, b); ok != namePatterns || is && !ok {
		t.Errorf("CoversName(%.60q, %.60q) = %v, %v", a, b, is, ok)
	}
}

func TestAnyPairOfTexts(t *testing.T) {
	for _, a := range nearTexts {
		for _, b := range nearTexts {
			checkPair(t, a, b)
		}
	}
}

func TestAnyPairOfShortTexts(t *testing.T) {
	texts := textsOf("/*a", 4)
	for _, a := range texts {
		for _, b := range texts {
			checkPair(t, a, b)
		}
	}
}

func FuzzPatterns(f *testing.F) {
	for _, s := range nearTexts {
		f.Add(s, s)
		f.Add(s, "/a/b/c/d/e/**")
		f.Add("dev/*", s)
	}
	f.Fuzz(checkPair)
}
