package tests

import (
	"regexp"
	"strings"
)

// The model reads the document's first chapter as regular expressions, so that it shares no way of thinking with the program.

const wordForm = `[a-z0-9]{1,8}`

var (
	pathForm        = regexp.MustCompile(`^(/|(/[a-z0-9]{1,8}){1,6})$`)
	nameForm        = regexp.MustCompile(`^[a-z0-9]{1,8}/[a-z0-9]{1,8}$`)
	pathPatternForm = regexp.MustCompile(`^(/|(/([a-z0-9]{1,8}|\*)){1,6}|(/([a-z0-9]{1,8}|\*)){0,5}/\*\*)$`)
	namePatternForm = regexp.MustCompile(`^([a-z0-9]{1,8}|\*)/([a-z0-9]{1,8}|\*)$`)
)

// matcherOf is asked with the path `/` written as the empty text.
func matcherOf(pattern string) *regexp.Regexp {
	form := strings.TrimSuffix(pattern, "/")
	form, rest := strings.CutSuffix(form, "/**")
	form = strings.ReplaceAll(form, "*", wordForm)
	if rest {
		form += `(/` + wordForm + `)*`
	}
	return regexp.MustCompile(`^` + form + `$`)
}

func modelMatchPath(pattern, path string) bool {
	if !pathPatternForm.MatchString(pattern) || !pathForm.MatchString(path) {
		return false
	}
	return matcherOf(pattern).MatchString(strings.TrimSuffix(path, "/"))
}

// pathsOf tells all paths of at most most words out of those given.
func pathsOf(words []string, most int) []string {
	all := []string{"/"}
	level := []string{""}
	for range most {
		var longer []string
		for _, p := range level {
			for _, w := range words {
				longer = append(longer, p+"/"+w)
			}
		}
		all = append(all, longer...)
		level = longer
	}
	return all
}

// patternsOf tells all path patterns of at most most words out of those given, one star, and two at the end.
func patternsOf(words []string, most int) []string {
	words = append([]string{"*"}, words...)
	all := pathsOf(words, most)
	for _, p := range pathsOf(words, most-1) {
		all = append(all, strings.TrimSuffix(p, "/")+"/**")
	}
	return all
}

func pairsOf(words []string) []string {
	var all []string
	for _, a := range words {
		for _, b := range words {
			all = append(all, a+"/"+b)
		}
	}
	return all
}

// textsOf tells all texts of at most most bytes out of those given.
func textsOf(bytes string, most int) []string {
	all := []string{""}
	level := all
	for range most {
		var longer []string
		for _, s := range level {
			for i := range len(bytes) {
				longer = append(longer, s+bytes[i:i+1])
			}
		}
		all = append(all, longer...)
		level = longer
	}
	return all
}
