package impl

import "iter"

const MaxWords = 6

const longestWord = 8
const wordsInName = 2
const anyWord = "*"
const anyRest = "**"

func GoodPath(s string) bool {
	words, ok := wordsOfPath(s)
	return ok && allPlain(words)
}

func GoodName(s string) bool {
	words, ok := wordsOfName(s)
	return ok && allPlain(words)
}

func GoodPathPattern(s string) bool {
	_, ok := wordsOfPath(s)
	return ok
}

func GoodNamePattern(s string) bool {
	_, ok := wordsOfName(s)
	return ok
}

// A path is a pattern that matches itself alone, so to match it is to cover it.
func MatchPath(pattern string, path string) bool {
	covers, ok := CoversPath(pattern, path)
	return ok && covers && GoodPath(path)
}

func MatchName(pattern string, name string) bool {
	covers, ok := CoversName(pattern, name)
	return ok && covers && GoodName(name)
}

func CoversPath(a string, b string) (bool, bool) {
	aWords, aGood := wordsOfPath(a)
	bWords, bGood := wordsOfPath(b)
	if !aGood || !bGood {
		return false, false
	}
	return coversWords(aWords, bWords), true
}

func CoversName(a string, b string) (bool, bool) {
	aWords, aGood := wordsOfName(a)
	bWords, bGood := wordsOfName(b)
	if !aGood || !bGood {
		return false, false
	}
	return coversWords(aWords, bWords), true
}

func MeetPath(a string, b string) (bool, bool) {
	aWords, aGood := wordsOfPath(a)
	bWords, bGood := wordsOfPath(b)
	if !aGood || !bGood {
		return false, false
	}
	return meetWords(aWords, bWords), true
}

// piecesOf tells what stands between the slashes, good or not, so that each reader asks for its own kind of words.
func piecesOf(s string) iter.Seq[string] {
	return func(yield func(string) bool) {
		from := 0
		for i := 0; i < len(s); i++ {
			if s[i] != '/' {
				continue
			}
			if !yield(s[from:i]) {
				return
			}
			from = i + 1
		}
		yield(s[from:])
	}
}

func wordsOfPath(s string) ([]string, bool) {
	if s == "/" {
		return nil, true
	}
	if s == "" || s[0] != '/' {
		return nil, false
	}
	var words []string
	ended := false
	for piece := range piecesOf(s[1:]) {
		if ended || len(words) == MaxWords {
			return nil, false
		}
		// Two stars may stand as the last word alone: any piece behind them is one too many.
		ended = piece == anyRest
		if !ended && !wordOrStar(piece) {
			return nil, false
		}
		words = append(words, piece)
	}
	return words, true
}

func wordsOfName(s string) ([]string, bool) {
	var words []string
	for piece := range piecesOf(s) {
		if len(words) == wordsInName || !wordOrStar(piece) {
			return nil, false
		}
		words = append(words, piece)
	}
	if len(words) != wordsInName {
		return nil, false
	}
	return words, true
}

func wordOrStar(s string) bool {
	return s == anyWord || plainWord(s)
}

func plainWord(s string) bool {
	if len(s) < 1 || len(s) > longestWord {
		return false
	}
	for i := 0; i < len(s); i++ {
		letter := s[i] >= 'a' && s[i] <= 'z'
		digit := s[i] >= '0' && s[i] <= '9'
		if !letter && !digit {
			return false
		}
	}
	return true
}

func allPlain(words []string) bool {
	for _, w := range words {
		if !plainWord(w) {
			return false
		}
	}
	return true
}

// Where a has two stars they take all that b has left: b is good, so none of its paths is longer than they reach.
func coversWords(a []string, b []string) bool {
	i := 0
next:
	if restAt(a, i) {
		return true
	}
	if i == len(a) || i == len(b) {
		return len(a) == len(b)
	}
	if !coversWord(a[i], b[i]) {
		return false
	}
	i++
	goto next
}

// Two stars of either stand for whatever the other has left, also for none.
func meetWords(a []string, b []string) bool {
	i := 0
next:
	if restAt(a, i) || restAt(b, i) {
		return true
	}
	if i == len(a) || i == len(b) {
		return len(a) == len(b)
	}
	if a[i] != b[i] && a[i] != anyWord && b[i] != anyWord {
		return false
	}
	i++
	goto next
}

func restAt(words []string, i int) bool {
	return i < len(words) && words[i] == anyRest
}

// One star never covers two: those stand for no word at all, too.
func coversWord(a string, b string) bool {
	return a == b || a == anyWord && b != anyRest
}
