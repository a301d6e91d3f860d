package tests

import (
	"fmt"
	"math/rand/v2"
	"regexp"
	"slices"
	"strings"

	"loop.example/g00167/impl"
)

// The model reads a rule as one line of text and asks regular expressions; it calls nothing of the program.

var ruleForm = regexp.MustCompile(`^(allow|deny) (([a-z0-9]{1,8}|\*)/([a-z0-9]{1,8}|\*)) (get|put|\*) (/|(/([a-z0-9]{1,8}|\*)){1,6}|(/([a-z0-9]{1,8}|\*)){0,5}/\*\*)$`)

func modelText(r impl.Rule) string {
	verb := "allow"
	if r.Deny {
		verb = "deny"
	}
	return strings.Join([]string{verb, r.Who, r.Method, r.Path}, " ")
}

// A field with a blank in it could make a line of a rule that is none, so each field is asked for by itself.
func modelGoodRule(r impl.Rule) bool {
	methods := []string{"get", "put", "*"}
	return namePatternForm.MatchString(r.Who) && slices.Contains(methods, r.Method) && pathPatternForm.MatchString(r.Path)
}

func modelGoodCall(c impl.Call) bool {
	methods := []string{"get", "put"}
	return nameForm.MatchString(c.Who) && slices.Contains(methods, c.Method) && pathForm.MatchString(c.Path)
}

func modelGoodPolicy(l []impl.Rule) bool {
	for _, r := range l {
		if !modelGoodRule(r) {
			return false
		}
	}
	return len(l) <= 30
}

func modelSpeaks(r impl.Rule, c impl.Call) bool {
	who := regexp.MustCompile("^" + strings.ReplaceAll(r.Who, "*", wordForm) + "$")
	return who.MatchString(c.Who) && modelMatchPath(r.Path, c.Path) && (r.Method == "*" || r.Method == c.Method)
}

func modelDecide(l []impl.Rule, c impl.Call) (int, int) {
	for _, deny := range []bool{true, false} {
		for k, r := range l {
			if r.Deny == deny && modelSpeaks(r, c) {
				if deny {
					return 2, k
				}
				return 1, k
			}
		}
	}
	return 3, -1
}

func modelPlain(l []impl.Rule) []impl.Rule {
	byText := map[string]impl.Rule{}
	for _, r := range l {
		byText[modelText(r)] = r
	}
	var texts []string
	for s := range byText {
		texts = append(texts, s)
	}
	slices.Sort(texts)
	var plain []impl.Rule
	for _, s := range texts {
		plain = append(plain, byText[s])
	}
	return plain
}

func modelIndex(l []impl.Rule, word string) []int {
	var numbers []int
	for k, r := range l {
		first := strings.Split(r.Path, "/")[1]
		if first == word || first == "**" || first == "*" && word != "" {
			numbers = append(numbers, k)
		}
	}
	return numbers
}

// modelCovers asks by calls, not by patterns: whether b speaks of none that a does not. The words of the calls are those of the rules and one more.
func modelCovers(a, b impl.Rule, calls []impl.Call) bool {
	for _, c := range calls {
		if modelSpeaks(b, c) && !modelSpeaks(a, c) {
			return false
		}
	}
	return true
}

func modelNever(l []impl.Rule, k int, calls []impl.Call) bool {
	for i, r := range l {
		if i == k || i > k && r == l[k] || !r.Deny && l[k].Deny {
			continue
		}
		if modelCovers(r, l[k], calls) {
			return true
		}
	}
	return false
}

func callsOf(names, paths []string) []impl.Call {
	var all []impl.Call
	for _, who := range names {
		for _, path := range paths {
			all = append(all, impl.Call{Who: who, Method: "get", Path: path}, impl.Call{Who: who, Method: "put", Path: path})
		}
	}
	return all
}

func rulesOf(names, methods, paths []string) []impl.Rule {
	var all []impl.Rule
	for _, deny := range []bool{false, true} {
		for _, who := range names {
			for _, method := range methods {
				for _, path := range paths {
					all = append(all, impl.Rule{Deny: deny, Who: who, Method: method, Path: path})
				}
			}
		}
	}
	return all
}

// smallRules are few enough that two of a policy often cover each other or are alike.
func smallRules() []impl.Rule {
	return rulesOf([]string{"*/*", "a/*", "*/b", "a/b"}, []string{"get", "put", "*"}, []string{"/", "/**", "/*", "/a", "/a/*", "/*/a", "/a/**", "/*/**", "/b/a"})
}

func smallCalls() []impl.Call {
	return callsOf([]string{"a/b", "a/z", "z/b", "z/z"}, pathsOf([]string{"a", "b", "z"}, 3))
}

func policyOf(rnd *rand.Rand, rules []impl.Rule, n int) []impl.Rule {
	var l []impl.Rule
	for range n {
		l = append(l, rules[rnd.IntN(len(rules))])
	}
	return l
}

// pathOfLength tells a path of n bytes (2..54).
func pathOfLength(n int) string {
	var path strings.Builder
	for words := (n + 8) / 9; words > 0; words-- {
		left := n - path.Len()
		path.WriteString("/" + strings.Repeat("p", min(8, left-1-2*(words-1))))
	}
	return path.String()
}

// ruleOfLength tells a rule of n bytes of text (16..68).
func ruleOfLength(n int) impl.Rule {
	return impl.Rule{Who: "a/b", Method: "get", Path: pathOfLength(n - len("allow a/b get "))}
}

// spare hands a list over with room behind it, so that what is written or read there is seen.
func spare[T any](l []T, behind ...T) ([]T, []T) {
	whole := append(slices.Clone(l), behind...)
	return whole[:len(l)], whole
}

// short tells a value for a failure's line, however long the value is.
func short(x any) string {
	s := fmt.Sprintf("%+v", x)
	return s[:min(len(s), 300)]
}
