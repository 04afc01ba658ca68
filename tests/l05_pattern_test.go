package tests

import (
	"regexp"
	"slices"
	"strings"
	"testing"

	"loop.example/g00507/impl"
)

var (
	wantVariable    = regexp.MustCompile(`\A\?[a-z]\z`)
	wantPatternPart = regexp.MustCompile(`\A([a-z0-9-]{1,8}|\*|\?[a-z])\z`)
	wantPatternText = regexp.MustCompile(`\A(/|(/([a-z0-9-]{1,8}|\*|\?[a-z])){1,6}|(/([a-z0-9-]{1,8}|\*|\?[a-z])){0,5}/\*\*)\z`)
)

// patternOf makes a pattern, valid or not, of its parts; with none, its Parts are nil.
func patternOf(parts ...string) impl.Pattern {
	return impl.Pattern{Parts: parts}
}

// bindings makes a list of letters and their values in turn.
func bindings(words ...string) []impl.Binding {
	l := []impl.Binding{}
	for i := 0; i < len(words); i += 2 {
		l = append(l, impl.Binding{Letter: words[i], Value: words[i+1]})
	}
	return l
}

var emptyPatterns = []impl.Pattern{{}, {Parts: []string{}}, {Parts: []string{"a", "?x"}[:0]}}

// None of these is a part of a pattern, wherever it stands.
var noPatternParts = []string{
	"", "?", "??", "???", "?*", "*?", "?A", "?Z", "?X", "?1", "?0", "?-", "?/", "? ", "?`", "?{", "?@", "?[", "?.", "?\x00", "?\x80", "?\xe1", "?\xff",
	"?\u00e9", "?\u0161", "?\uff41", "?\u0430", "?\U00010061", "\uff1fx", "\u00bfx", "?xy", "?xx", "?x?x", "?x1", "?x-", "?x?", "?x*", "?x ", "?x\n", "?x/", " ?x", "x?", "a?x", "?abcdefg", "?abcdefgh",
	"***", "****", "*a", "a*", "a*b", "*-", "* ", " *", "*\n", "**a", "a**", "** ", " **", "* *", "*/", "/*", "\u2217", "\uff0a", "*\x00", "\x00*",
	"A", "aB", "nine99999", "/", "/a", "a/", "a/b", "a b", "a ", " a", ".", "a.b", "a_b", "\x80", "\xff", "\u00e9", "a\u00e9", "[a]", "+", "$x", "{x}", "a|b",
}

var onePartPatterns = []string{"a", "0", "-", "x", "key", "12345678", "--------", "*", "?a", "?m", "?x", "?z"}

// model5Valid tells, in a way of its own, whether a pattern of these parts is valid.
func model5Valid(parts []string) bool {
	if last := len(parts) - 1; len(parts) <= 6 && last >= 0 && parts[last] == "**" {
		parts = parts[:last]
	}
	return len(parts) <= 6 && !slices.ContainsFunc(parts, func(s string) bool {
		return !wantPatternPart.MatchString(s)
	})
}

// model5 matches with a map of the variables; a pattern without "**" is for names of as many parts only.
func model5(p, n []string, l []impl.Binding) ([]impl.Binding, bool) {
	validName := len(n) <= 6 && !slices.ContainsFunc(n, func(s string) bool {
		return !wantPart.MatchString(s)
	})
	if !model5Valid(p) || !validName {
		return l, false
	}
	if last := len(p) - 1; last >= 0 && p[last] == "**" {
		p = p[:last]
		n = n[:min(len(n), last)]
	}
	if len(p) != len(n) {
		return l, false
	}
	values := map[string]string{}
	for _, b := range slices.Backward(l) {
		values[b.Letter] = b.Value
	}
	all := slices.Clone(l)
	for i, s := range p {
		want := s
		if wantVariable.MatchString(s) {
			if _, bound := values[s]; !bound {
				values[s] = n[i]
				all = append(all, impl.Binding{Letter: s, Value: n[i]})
			}
			want = values[s]
		}
		if s != "*" && want != n[i] {
			return l, false
		}
	}
	return all, true
}

func checkMatch(t *testing.T, p, n []string, l []impl.Binding) {
	t.Helper()
	want, wantOK := model5(p, n, l)
	if got, ok := impl.Match(patternOf(p...), nameOf(n...), l); !slices.Equal(got, want) || ok != wantOK {
		t.Fatalf("Match(%q, %q, %q) = %q, %v, want %q, %v", p, n, l, got, ok, want, wantOK)
	}
}

// sequences returns all sequences of at most that many elements of the alphabet.
func sequences(alphabet []string, most int) [][]string {
	all := [][]string{{}}
	for first, length := 0, 0; length < most; length++ {
		last := len(all)
		for _, before := range all[first:last] {
			for _, s := range alphabet {
				all = append(all, append(slices.Clone(before), s))
			}
		}
		first = last
	}
	return all
}

func TestValidPattern(t *testing.T) {
	for _, p := range emptyPatterns {
		if !impl.ValidPattern(p) {
			t.Errorf("ValidPattern(%q) = false", p.Parts)
		}
	}
	for _, parts := range [][]string{
		{"a"}, {"*"}, {"**"}, {"?x"}, {"a", "news", "*"}, {"?x", "*", "?x", "**"}, {"?x", "?y", "?x"}, {"*", "*"}, {"*", "**"}, {"a", "**"}, {"?a", "**"},
		{"x", "?x"}, {"12345678", "--------", "abcdefgh"},
		// As many parts as there may be.
		{"a", "b", "c", "d", "e", "f"}, {"*", "*", "*", "*", "*", "*"}, {"?a", "?b", "?c", "?d", "?e", "?f"}, {"?a", "?a", "?a", "?a", "?a", "?a"},
		{"a", "?b", "*", "d", "e", "**"}, {"*", "*", "*", "*", "*", "**"},
	} {
		if !impl.ValidPattern(patternOf(parts...)) {
			t.Errorf("ValidPattern(%q) = false", parts)
		}
	}
	for _, parts := range [][]string{
		// "**" before the end.
		{"**", "a"}, {"**", "*"}, {"**", "?x"}, {"**", "**"}, {"a", "**", "b"}, {"a", "**", "**"}, {"**", "a", "**"}, {"?x", "**", "?x"}, {"a", "b", "c", "d", "**", "f"}, {"**", "b", "c", "d", "e", "f"},
		// More parts than there may be, also if the last one matches none.
		{"a", "b", "c", "d", "e", "f", "g"}, {"*", "*", "*", "*", "*", "*", "*"}, {"?a", "?b", "?c", "?d", "?e", "?f", "?g"},
		{"a", "b", "c", "d", "e", "f", "**"}, {"*", "*", "*", "*", "*", "*", "**"}, {"a", "b", "c", "d", "e", "f", "g", "h"}, make([]string, 7), slices.Repeat([]string{"a"}, 262), slices.Repeat([]string{"**"}, 1000),
	} {
		if impl.ValidPattern(patternOf(parts...)) {
			t.Errorf("ValidPattern(%q) = true", parts)
		}
	}
}

func TestEachPartOfAPattern(t *testing.T) {
	all := slices.Concat(onePartPatterns, noPatternParts, []string{"**"})
	for _, s := range all {
		for length := 1; length <= 7; length++ {
			for at := range length {
				parts := slices.Repeat([]string{"?x"}, length)
				parts[at] = s
				if got, want := impl.ValidPattern(patternOf(parts...)), model5Valid(parts); got != want {
					t.Errorf("ValidPattern(%q) = %v, want %v", parts, got, want)
				}
			}
		}
	}
	for _, s := range onePartPatterns {
		if !impl.ValidPattern(patternOf(s)) {
			t.Errorf("ValidPattern of the part %q = false", s)
		}
	}
	for _, s := range noPatternParts {
		if impl.ValidPattern(patternOf(s)) {
			t.Errorf("ValidPattern of the part %q = true", s)
		}
	}
}

func TestEachLetterOfAVariable(t *testing.T) {
	for i := range 256 {
		c := string([]byte{byte(i)})
		isLetter := 'a' <= i && i <= 'z'
		if got := impl.ValidPattern(patternOf("?" + c)); got != isLetter {
			t.Errorf("ValidPattern of %q = %v", "?"+c, got)
		}
		if got := impl.ValidPattern(patternOf(c + "x")); got != (isLetter || '0' <= i && i <= '9' || i == '-' || i == '?') {
			t.Errorf("ValidPattern of %q = %v", c+"x", got)
		}
		if got := impl.ValidPattern(patternOf("?x" + c)); got {
			t.Errorf("ValidPattern of %q = true", "?x"+c)
		}
		// A valid part matches itself; "*" matches any; nothing else that is not a variable is a pattern.
		want := impl.ValidPart(c) || c == "*"
		if got := impl.ValidPattern(patternOf(c)); got != want {
			t.Errorf("ValidPattern of %q = %v", c, got)
		}
	}
}

func TestMatch(t *testing.T) {
	cases := []struct {
		p, n []string
		l    []impl.Binding
		want []impl.Binding
	}{
		{nil, nil, nil, nil},
		{nil, nil, bindings("?x", "a"), bindings("?x", "a")},
		{[]string{"a", "news", "1"}, []string{"a", "news", "1"}, nil, nil},
		{[]string{"*"}, []string{"abcdefgh"}, nil, nil},
		{[]string{"*", "*"}, []string{"a", "b"}, nil, nil},
		{[]string{"**"}, nil, nil, nil},
		{[]string{"**"}, []string{"a"}, nil, nil},
		{[]string{"**"}, []string{"a", "b", "c", "d", "e", "f"}, nil, nil},
		{[]string{"a", "**"}, []string{"a"}, nil, nil},
		{[]string{"a", "**"}, []string{"a", "b", "c", "d", "e", "f"}, nil, nil},
		{[]string{"?x"}, []string{"x"}, nil, bindings("?x", "x")},
		{[]string{"?x", "?x"}, []string{"a", "a"}, nil, bindings("?x", "a")},
		{[]string{"?x", "*", "?x"}, []string{"a", "b", "a"}, nil, bindings("?x", "a")},
		{[]string{"?x", "?y"}, []string{"a", "a"}, nil, bindings("?x", "a", "?y", "a")},
		// The bindings are in the order of the parts, not in that of the letters.
		{[]string{"?z", "?a", "?z", "?m"}, []string{"1", "2", "1", "0"}, nil, bindings("?z", "1", "?a", "2", "?m", "0")},
		{[]string{"?f", "?e", "?d", "?c", "?b", "?a"}, []string{"a", "b", "c", "d", "e", "f"}, nil, bindings("?f", "a", "?e", "b", "?d", "c", "?c", "d", "?b", "e", "?a", "f")},
		{[]string{"?x", "b", "c", "d", "?y", "**"}, []string{"a", "b", "c", "d", "e"}, nil, bindings("?x", "a", "?y", "e")},
		{[]string{"?x", "b", "c", "d", "?y", "**"}, []string{"a", "b", "c", "d", "e", "f"}, nil, bindings("?x", "a", "?y", "e")},
		{[]string{"?x", "**"}, []string{"a", "b", "b"}, nil, bindings("?x", "a")},
		// What is bound already stays as it is, and is not bound again.
		{[]string{"?x"}, []string{"a"}, bindings("?x", "a"), bindings("?x", "a")},
		{[]string{"?x", "?x"}, []string{"a", "a"}, bindings("?x", "a"), bindings("?x", "a")},
		{[]string{"?x", "?y"}, []string{"a", "b"}, bindings("?y", "b"), bindings("?y", "b", "?x", "a")},
		{[]string{"?x", "?y"}, []string{"a", "b"}, bindings("?y", "b", "?x", "a"), bindings("?y", "b", "?x", "a")},
		// Of several bindings of one letter, the first one counts.
		{[]string{"?x"}, []string{"a"}, bindings("?x", "a", "?x", "b"), bindings("?x", "a", "?x", "b")},
		{[]string{"?x", "?y"}, []string{"a", "c"}, bindings("?x", "a", "?x", "", "?x", "a"), bindings("?x", "a", "?x", "", "?x", "a", "?y", "c")},
		// Bindings that the pattern does not use, among them some that are not of a variable.
		{[]string{"?x"}, []string{"a"}, bindings("?y", "b", "?z", ""), bindings("?y", "b", "?z", "", "?x", "a")},
		{[]string{"a"}, []string{"a"}, bindings("?x", "b", "a", "c", "*", "d"), bindings("?x", "b", "a", "c", "*", "d")},
		{[]string{"?x", "*", "**"}, []string{"a", "b", "c"}, bindings("x", "q", "", "q", "?", "q", "?X", "q", "?xx", "q", "*", "q", "**", "q", " ?x", "q"), bindings("x", "q", "", "q", "?", "q", "?X", "q", "?xx", "q", "*", "q", "**", "q", " ?x", "q", "?x", "a")},
		{[]string{"**"}, nil, bindings("?x", "a", "?x", "A"), bindings("?x", "a", "?x", "A")},
	}
	for _, c := range cases {
		if got, ok := impl.Match(patternOf(c.p...), nameOf(c.n...), c.l); !slices.Equal(got, c.want) || !ok {
			t.Errorf("Match(%q, %q, %q) = %q, %v, want %q, true", c.p, c.n, c.l, got, ok, c.want)
		}
		if got := impl.Matches(patternOf(c.p...), nameOf(c.n...)); !got {
			t.Errorf("Matches(%q, %q) = false", c.p, c.n)
		}
	}
}

// A match that fails returns the bindings as they were, whatever was bound on the way.
func TestMatchFails(t *testing.T) {
	cases := []struct {
		p, n []string
	}{
		{[]string{"a"}, []string{"b"}}, {[]string{"a"}, []string{"ab"}}, {[]string{"ab"}, []string{"a"}}, {[]string{"a"}, nil}, {nil, []string{"a"}},
		{[]string{"a"}, []string{"a", "b"}}, {[]string{"a", "b"}, []string{"a"}}, {[]string{"a", "b"}, []string{"b", "a"}},
		{[]string{"*"}, nil}, {[]string{"*"}, []string{"a", "b"}}, {[]string{"*", "*"}, []string{"a"}}, {[]string{"*", "a"}, []string{"a", "b"}},
		{[]string{"?x"}, nil}, {[]string{"?x"}, []string{"a", "a"}}, {[]string{"?x", "?x"}, []string{"a"}},
		{[]string{"a", "**"}, nil}, {[]string{"a", "**"}, []string{"b"}}, {[]string{"a", "**"}, []string{"b", "a"}}, {[]string{"a", "b", "**"}, []string{"a"}}, {[]string{"*", "**"}, nil}, {[]string{"?x", "**"}, nil},
		// The same variable with another part.
		{[]string{"?x", "?x"}, []string{"a", "b"}}, {[]string{"?x", "*", "?x"}, []string{"a", "b", "b"}}, {[]string{"?x", "*", "?x", "**"}, []string{"a", "b", "b", "a"}}, {[]string{"?x", "?x", "?x"}, []string{"a", "a", "b"}}, {[]string{"?x", "?y", "?x", "?y"}, []string{"a", "b", "a", "a"}},
		{[]string{"?x", "?x"}, []string{"a", "aa"}}, {[]string{"?x", "?x"}, []string{"aa", "a"}},
		// Variables are bound in front of what does not match.
		{[]string{"?x", "?y", "c"}, []string{"a", "b", "d"}}, {[]string{"?x", "?y"}, []string{"a"}}, {[]string{"?x", "?y"}, []string{"a", "b", "c"}}, {[]string{"?x", "?y", "?z", "**"}, []string{"a", "b"}},
		{[]string{"?a", "?b", "?c", "?d", "?e", "f"}, []string{"1", "2", "3", "4", "5", "6"}},
		// Patterns and names that are not valid.
		{[]string{"**", "a"}, []string{"a"}}, {[]string{"**", "**"}, []string{"a"}}, {[]string{"?x", "**", "?y"}, []string{"a", "b"}}, {[]string{"?x", "?"}, []string{"a", "b"}}, {[]string{"?X"}, []string{"a"}}, {[]string{"?x", "?Y"}, []string{"a", "b"}}, {[]string{"?xy"}, []string{"a"}}, {[]string{"***"}, []string{"a"}}, {[]string{"?1"}, []string{"1"}},
		{[]string{""}, nil}, {[]string{""}, []string{""}}, {[]string{"A"}, []string{"A"}}, {[]string{"nine99999"}, []string{"nine99999"}}, {[]string{"a/b"}, []string{"a/b"}}, {[]string{"a/b"}, []string{"a", "b"}}, {[]string{"\xff"}, []string{"\xff"}},
		{[]string{"*"}, []string{""}}, {[]string{"*"}, []string{"A"}}, {[]string{"*"}, []string{"nine99999"}}, {[]string{"*"}, []string{"a/b"}}, {[]string{"*"}, []string{"*"}}, {[]string{"**"}, []string{"**"}}, {[]string{"?x"}, []string{"?x"}}, {[]string{"?x"}, []string{""}}, {[]string{"?x"}, []string{"\x80"}},
		{[]string{"**"}, []string{"a", "", "b"}}, {[]string{"**"}, []string{"a", "b", "C"}}, {[]string{"a", "**"}, []string{"a", "."}}, {[]string{"?x", "?y"}, []string{"a", "\u00e9"}},
		{[]string{"**"}, []string{"a", "b", "c", "d", "e", "f", "g"}}, {[]string{"?x", "**"}, []string{"a", "b", "c", "d", "e", "f", "g"}},
		{[]string{"a", "b", "c", "d", "e", "f", "g"}, []string{"a", "b", "c", "d", "e", "f", "g"}}, {[]string{"*", "*", "*", "*", "*", "*", "*"}, []string{"a", "b", "c", "d", "e", "f", "g"}},
		{[]string{"?a", "?b", "?c", "?d", "?e", "?f", "?g"}, []string{"a", "b", "c", "d", "e", "f", "g"}}, {[]string{"?a", "?b", "?c", "?d", "?e", "?f", "**"}, []string{"a", "b", "c", "d", "e", "f"}}, {slices.Repeat([]string{"a"}, 300), slices.Repeat([]string{"a"}, 300)},
	}
	for _, c := range cases {
		for _, l := range [][]impl.Binding{nil, {}, bindings("?q", "a"), bindings("?x", "a"), bindings("?y", "b", "?x", "a", "?x", "b"), bindings("", "", "x", "A")} {
			if got, ok := impl.Match(patternOf(c.p...), nameOf(c.n...), l); !slices.Equal(got, l) || ok {
				t.Errorf("Match(%q, %q, %q) = %q, %v, want the same bindings, false", c.p, c.n, l, got, ok)
			}
		}
		if impl.Matches(patternOf(c.p...), nameOf(c.n...)) {
			t.Errorf("Matches(%q, %q) = true", c.p, c.n)
		}
	}
}

// These match without bindings, but the bindings have another value.
func TestMatchOfBoundVariablesFails(t *testing.T) {
	cases := []struct {
		p, n []string
		l    []impl.Binding
	}{
		{[]string{"?x"}, []string{"a"}, bindings("?x", "b")},
		{[]string{"?x"}, []string{"a"}, bindings("?x", "b", "?x", "a")},
		{[]string{"?x"}, []string{"a"}, bindings("?y", "a", "?x", "b", "?x", "a", "?x", "a")},
		{[]string{"?x"}, []string{"a"}, bindings("?x", "aa")},
		{[]string{"?x"}, []string{"aa"}, bindings("?x", "a")},
		{[]string{"?x", "?x"}, []string{"a", "a"}, bindings("?x", "b")},
		{[]string{"?y", "?x"}, []string{"a", "b"}, bindings("?x", "a")},
		{[]string{"?y", "?z", "?x", "**"}, []string{"a", "b", "c"}, bindings("?x", "b")},
		// A variable with an empty value is bound, too, and so is one whose value is no valid part.
		{[]string{"?x"}, []string{"a"}, bindings("?x", "")},
		{[]string{"?x"}, []string{"a"}, bindings("?x", "", "?x", "a")},
		{[]string{"?x", "?y"}, []string{"a", "b"}, bindings("?y", "")},
		{[]string{"?x"}, []string{"a"}, bindings("?x", "A")},
		{[]string{"?x"}, []string{"a"}, bindings("?x", "*")},
		{[]string{"?x"}, []string{"a"}, bindings("?x", "?x")},
		{[]string{"?x"}, []string{"a"}, bindings("?x", "?y", "?y", "a")},
	}
	for _, c := range cases {
		if got, ok := impl.Match(patternOf(c.p...), nameOf(c.n...), c.l); !slices.Equal(got, c.l) || ok {
			t.Errorf("Match(%q, %q, %q) = %q, %v, want the same bindings, false", c.p, c.n, c.l, got, ok)
		}
		if !impl.Matches(patternOf(c.p...), nameOf(c.n...)) {
			t.Errorf("Matches(%q, %q) = false", c.p, c.n)
		}
	}
}

var shortLists = [][]impl.Binding{
	nil,
	bindings("?x", "a"), bindings("?x", "b"), bindings("?x", ""), bindings("?y", "a"), bindings("?z", "b"),
	bindings("?x", "a", "?x", "b"), bindings("?y", "b", "?x", "a"), bindings("?x", "b", "?y", "b", "?y", "a"), bindings("x", "b", "a", "b", "*", "b"),
}

func TestMatchOfAllShortPatterns(t *testing.T) {
	names := sequences([]string{"a", "b"}, 4)
	for _, p := range sequences([]string{"a", "b", "*", "?x", "?y", "**"}, 4) {
		for _, n := range names {
			for _, l := range shortLists {
				checkMatch(t, p, n, l)
			}
			if _, want := model5(p, n, nil); impl.Matches(patternOf(p...), nameOf(n...)) != want {
				t.Fatalf("Matches(%q, %q) = %v", p, n, !want)
			}
		}
	}
}

func TestMatchOfAllLongPatterns(t *testing.T) {
	for _, p := range sequences([]string{"a", "?x", "**"}, 7) {
		if len(p) < 4 {
			continue
		}
		for length := range 8 {
			n := slices.Repeat([]string{"a"}, length)
			checkMatch(t, p, n, nil)
			for at := range length {
				other := slices.Clone(n)
				other[at] = "b"
				checkMatch(t, p, other, bindings("?y", "a"))
			}
		}
	}
}

func TestMatchOfEachPart(t *testing.T) {
	all := slices.Concat(onePartPatterns, noPatternParts, []string{"**"})
	for _, p := range all {
		for _, n := range all {
			checkMatch(t, []string{p}, []string{n}, nil)
			checkMatch(t, []string{p, "?y"}, []string{n, "a"}, bindings("?x", "a"))
			checkMatch(t, []string{"?y", p}, []string{"a", n}, bindings("?x", "a"))
			checkMatch(t, []string{p, "**"}, []string{n, "a"}, nil)
			checkMatch(t, []string{p, "?x", "**"}, []string{n, n, n}, nil)
		}
	}
}

// checkMatchOfBoundPattern holds a match, with and without the bindings, against the name that was made with them.
func checkMatchOfBoundPattern(t *testing.T, p impl.Pattern, n impl.Name, l []impl.Binding) {
	t.Helper()
	if got, ok := impl.Match(p, n, l); !ok || !slices.Equal(got, l) {
		t.Fatalf("Match(%q, %q, %q) = %q, %v, want the same bindings, true", p.Parts, n.Parts, l, got, ok)
	}
	found, ok := impl.Match(p, n, nil)
	if !ok || !impl.Matches(p, n) {
		t.Fatalf("Match(%q, %q) = %q, %v", p.Parts, n.Parts, found, ok)
	}
	for _, s := range p.Parts {
		if wantVariable.MatchString(s) && impl.BindingValue(found, s) != impl.BindingValue(l, s) {
			t.Fatalf("Match(%q, %q) = %q, want %q as in %q", p.Parts, n.Parts, found, s, l)
		}
	}
	if again, ok := impl.Instantiate(p, found); !ok || !impl.EqualNames(again, n) {
		t.Fatalf("Instantiate(%q, %q) = %q, %v, want %q", p.Parts, found, again.Parts, ok, n.Parts)
	}
}

func TestAPatternMatchesWhatItIsInstantiatedTo(t *testing.T) {
	values := []string{"a", "b", "x-1", "abcdefgh", "0"}
	count := 0
	for _, parts := range sequences([]string{"a", "?x", "?y", "?a"}, 6) {
		p := patternOf(parts...)
		for i, x := range values {
			y, z := values[(i+len(parts))%len(values)], values[(i*i+2)%len(values)]
			l := bindings("?x", x, "?y", y, "?a", z, "?x", y, "?q", "")
			n, ok := impl.Instantiate(p, l)
			if !ok {
				t.Fatalf("Instantiate(%q, %q) = false", parts, l)
			}
			checkMatchOfBoundPattern(t, p, n, l)
			count++
		}
	}
	if count != 5461*5 {
		t.Errorf("%d patterns and lists", count)
	}
}

// A pattern with "*" and "**" matches whatever stands in their places.
func TestAPatternMatchesWhatStandsForItsStars(t *testing.T) {
	for _, parts := range sequences([]string{"a", "?x", "*"}, 5) {
		for _, filler := range []string{"a", "b", "abcdefgh"} {
			name := []string{}
			for _, s := range parts {
				switch s {
				case "?x":
					name = append(name, "z")
				case "*":
					name = append(name, filler)
				default:
					name = append(name, s)
				}
			}
			if !impl.Matches(patternOf(parts...), nameOf(name...)) {
				t.Fatalf("Matches(%q, %q) = false", parts, name)
			}
			open := patternOf(append(slices.Clone(parts), "**")...)
			for len(name) <= 6 {
				if !impl.Matches(open, nameOf(name...)) {
					t.Fatalf("Matches(%q, %q) = false", open.Parts, name)
				}
				name = append(name, filler)
			}
			if impl.Matches(open, nameOf(name...)) {
				t.Fatalf("Matches(%q, %q) = true", open.Parts, name)
			}
		}
	}
}

func TestBindingValue(t *testing.T) {
	l := bindings("?x", "a", "?y", "b", "?x", "c", "?z", "", "?z", "d", "x", "e", "", "f", "?X", "G", "?xy", "h", "\xff", "\x80/ ")
	cases := []struct{ k, want string }{
		{"?x", "a"}, {"?y", "b"}, {"?z", ""}, {"x", "e"}, {"", "f"}, {"?X", "G"}, {"?xy", "h"}, {"\xff", "\x80/ "},
		{"?w", ""}, {"y", ""}, {"?", ""}, {"?x ", ""}, {" ?x", ""}, {"?xyz", ""}, {"*", ""}, {"\xfe", ""}, {"a", ""}, {"\ufffd", ""},
	}
	for _, c := range cases {
		if got := impl.BindingValue(l, c.k); got != c.want {
			t.Errorf("BindingValue(%q) = %q, want %q", c.k, got, c.want)
		}
		for _, none := range [][]impl.Binding{nil, {}, l[:0]} {
			if got := impl.BindingValue(none, c.k); got != "" {
				t.Errorf("BindingValue of no bindings(%q) = %q", c.k, got)
			}
		}
	}
}

func TestFormatPattern(t *testing.T) {
	for _, p := range emptyPatterns {
		if got := impl.FormatPattern(p); got != "/" {
			t.Errorf("FormatPattern(%q) = %q, want \"/\"", p.Parts, got)
		}
	}
	cases := []struct {
		p    impl.Pattern
		want string
	}{
		{patternOf("a"), "/a"}, {patternOf("*"), "/*"}, {patternOf("**"), "/**"}, {patternOf("?x"), "/?x"}, {patternOf("?x", "*", "?x", "**"), "/?x/*/?x/**"},
		{patternOf("a", "b", "?c", "*", "e", "**"), "/a/b/?c/*/e/**"},
		// Patterns that are not valid have a text, too.
		{patternOf("**", "a"), "/**/a"}, {patternOf(""), "/"}, {patternOf("", ""), "//"}, {patternOf("?x", ""), "/?x/"}, {patternOf("", "*"), "//*"},
		{patternOf("?"), "/?"}, {patternOf("?X", "***"), "/?X/***"}, {patternOf("a/?x"), "/a/?x"}, {patternOf("\u00e9", "\x80\xff"), "/\u00e9/\x80\xff"}, {patternOf("nine99999"), "/nine99999"},
		{patternOf("a", "b", "c", "d", "e", "f", "**"), "/a/b/c/d/e/f/**"}, {patternOf(slices.Repeat([]string{"?x"}, 300)...), strings.Repeat("/?x", 300)},
	}
	for _, c := range cases {
		if got := impl.FormatPattern(c.p); got != c.want {
			t.Errorf("FormatPattern(%q) = %q, want %q", c.p.Parts, got, c.want)
		}
	}
}

func TestParsePattern(t *testing.T) {
	cases := []struct {
		s    string
		want []string
	}{
		{"/", nil}, {"/a", []string{"a"}}, {"/*", []string{"*"}}, {"/**", []string{"**"}}, {"/?x", []string{"?x"}}, {"/?a", []string{"?a"}}, {"/?z", []string{"?z"}}, {"/-", []string{"-"}},
		{"/?x/*/?x/**", []string{"?x", "*", "?x", "**"}}, {"/a/news/1", []string{"a", "news", "1"}}, {"/*/**", []string{"*", "**"}}, {"/?x/key", []string{"?x", "key"}},
		{"/a/b/c/d/e/f", []string{"a", "b", "c", "d", "e", "f"}}, {"/*/?b/c/*/?e/**", []string{"*", "?b", "c", "*", "?e", "**"}}, {"/abcdefgh/12345678", []string{"abcdefgh", "12345678"}},
	}
	for _, c := range cases {
		if p, ok := impl.ParsePattern(c.s); !slices.Equal(p.Parts, c.want) || !ok {
			t.Errorf("ParsePattern(%q) = %q, %v, want %q, true", c.s, p.Parts, ok, c.want)
		}
	}
}

func TestParsePatternRejects(t *testing.T) {
	texts := []string{
		// No leading slash.
		"", "a", "?x", "*", "**", "?x/*", "*/a", " /a", "\x00/*",
		// Slashes at the end and in a row, each with an empty part.
		"//", "///", "/a/", "/?x/", "/*/", "/**/", "//?x", "//*", "//**", "/?x//a", "/a//**", "/**//", "//////", "/a/b/c/d/e/f/", "/a/b/c/d/e/**/", strings.Repeat("/", 10000),
		// "**" before the end, and too many parts.
		"/**/a", "/**/*", "/**/?x", "/**/**", "/a/**/b", "/a/b/c/d/e/f/g", "/a/b/c/d/e/f/**", "/*/*/*/*/*/*/*", "/?a/?b/?c/?d/?e/?f/?g", strings.Repeat("/*", 262),
		"\uff0f*", "/?x\u2215a", "\xaf*", "/*\xaf*", "/*\xc0\xaf*", "\ufeff/*",
	}
	for _, s := range noPatternParts {
		if !strings.Contains(s, "/") && s != "" {
			texts = append(texts, "/"+s, "/a/"+s, "/"+s+"/*")
		}
	}
	for _, s := range texts {
		if p, ok := impl.ParsePattern(s); p.Parts != nil || ok {
			t.Errorf("ParsePattern(%q) = %q, %v, want the zero Pattern, false", s, p.Parts, ok)
		}
	}
}

// checkParsePattern holds what ParsePattern returns against a regular expression.
func checkParsePattern(t *testing.T, s string) {
	t.Helper()
	p, ok := impl.ParsePattern(s)
	if want := wantPatternText.MatchString(s); ok != want {
		t.Fatalf("ParsePattern(%q) = %q, %v, want %v", s, p.Parts, ok, want)
	}
	if !ok && p.Parts != nil {
		t.Fatalf("ParsePattern(%q) = %q, false, want the zero Pattern", s, p.Parts)
	}
	if ok && (!impl.ValidPattern(p) || impl.FormatPattern(p) != s) {
		t.Fatalf("ParsePattern(%q) = %q, which is not valid or has another text", s, p.Parts)
	}
}

func TestParsePatternOfAllShortTexts(t *testing.T) {
	for _, s := range sequences([]string{"/", "a", "?", "*", "X", "\xff"}, 7) {
		checkParsePattern(t, strings.Join(s, ""))
	}
}

func TestParsePatternOfEachByte(t *testing.T) {
	for i := range 256 {
		for _, s := range []string{"a", "/?", "/?x", "/*/**", "/a/?b/*/d/?e/**", "/abcdefgh/?a"} {
			for at := range len(s) {
				checkParsePattern(t, string(with([]byte(s), at, byte(i))))
				checkParsePattern(t, s[:at]+string([]byte{byte(i)})+s[at:])
				checkParsePattern(t, s[:at]+s[at+1:])
			}
			checkParsePattern(t, s+string([]byte{byte(i)}))
		}
	}
}

func TestParsePatternOfFormatPattern(t *testing.T) {
	all := sequences([]string{"a", "x-1", "*", "?x", "?z", "**"}, 4)
	all = append(all, sequences([]string{"", "a", "/", "**", "?", "?x"}, 4)...)
	all = append(all, sequences([]string{"a", "**"}, 7)...)
	for _, parts := range all {
		s := impl.FormatPattern(patternOf(parts...))
		checkParsePattern(t, s)
		if p, ok := impl.ParsePattern(s); impl.ValidPattern(patternOf(parts...)) && (!ok || !slices.Equal(p.Parts, parts)) {
			t.Fatalf("ParsePattern(%q) = %q, %v, want %q", s, p.Parts, ok, parts)
		}
	}
}

func TestInstantiate(t *testing.T) {
	cases := []struct {
		p    []string
		l    []impl.Binding
		want []string
	}{
		{nil, nil, nil}, {nil, bindings("?x", "a"), nil},
		{[]string{"a", "b"}, nil, []string{"a", "b"}}, {[]string{"a"}, bindings(), []string{"a"}}, {[]string{"x"}, bindings("x", "b", "?x", "c"), []string{"x"}},
		{[]string{"?x"}, bindings("?x", "a"), []string{"a"}}, {[]string{"?x", "key"}, bindings("?x", "a"), []string{"a", "key"}}, {[]string{"?x"}, bindings("?x", "abcdefgh"), []string{"abcdefgh"}},
		{[]string{"?x", "?x"}, bindings("?x", "a"), []string{"a", "a"}}, {[]string{"?x", "?y", "?x"}, bindings("?y", "b", "?x", "a"), []string{"a", "b", "a"}},
		// Of several bindings of one letter, the first one counts.
		{[]string{"?x"}, bindings("?x", "a", "?x", "b"), []string{"a"}}, {[]string{"?x", "?x"}, bindings("?x", "a", "?x", ""), []string{"a", "a"}},
		// Bindings that the pattern does not use may have any value.
		{[]string{"?x"}, bindings("?y", "", "x", "b", "?X", "B", "?x", "a", "?z", "*"), []string{"a"}},
		{[]string{"?a", "?b", "?c", "?d", "?e", "?f"}, bindings("?f", "1", "?e", "2", "?d", "3", "?c", "4", "?b", "5", "?a", "6"), []string{"6", "5", "4", "3", "2", "1"}},
		{[]string{"a", "b", "c", "d", "e", "?x"}, bindings("?x", "-"), []string{"a", "b", "c", "d", "e", "-"}},
	}
	for _, c := range cases {
		if n, ok := impl.Instantiate(patternOf(c.p...), c.l); !slices.Equal(n.Parts, c.want) || !ok {
			t.Errorf("Instantiate(%q, %q) = %q, %v, want %q, true", c.p, c.l, n.Parts, ok, c.want)
		}
	}
}

func TestInstantiateRejects(t *testing.T) {
	full := bindings("?a", "1", "?b", "2", "?c", "3", "?d", "4", "?e", "5", "?f", "6", "?g", "7", "?x", "8", "?X", "9", "?", "9", "*", "9", "**", "9", "", "9")
	patterns := [][]string{
		{"*"}, {"**"}, {"a", "*"}, {"*", "a"}, {"?x", "*", "?x"}, {"?x", "**"}, {"a", "b", "c", "d", "e", "*"}, {"a", "b", "c", "d", "e", "**"},
		// Patterns that are not valid.
		{"**", "a"}, {"**", "?x"}, {"**", "**"}, {"?"}, {"?X"}, {"?xy"}, {"***"}, {""}, {"A"}, {"a/b"}, {"nine99999"}, {"?x", "a/b"}, {"?x", ""},
		{"a", "b", "c", "d", "e", "f", "g"}, {"?a", "?b", "?c", "?d", "?e", "?f", "?g"}, {"a", "b", "c", "d", "e", "f", "**"}, make([]string, 7),
		// Variables without a binding.
		{"?y"}, {"?x", "?y"}, {"?y", "?x"}, {"a", "?y", "b"}, {"?x", "?x", "?y"},
	}
	for _, p := range patterns {
		if n, ok := impl.Instantiate(patternOf(p...), full); n.Parts != nil || ok {
			t.Errorf("Instantiate(%q, %q) = %q, %v, want the zero Name, false", p, full, n.Parts, ok)
		}
	}
	for _, none := range [][]impl.Binding{nil, {}, full[:0]} {
		if n, ok := impl.Instantiate(patternOf("a", "?x"), none); n.Parts != nil || ok {
			t.Errorf("Instantiate without bindings = %q, %v, want the zero Name, false", n.Parts, ok)
		}
	}
	for _, value := range append(slices.Clone(noPatternParts), "*", "**", "?x", "?y") {
		for _, l := range [][]impl.Binding{bindings("?x", value), bindings("?x", value, "?x", "a"), bindings("?y", "a", "?x", value)} {
			for _, p := range [][]string{{"?x"}, {"a", "?x"}, {"?x", "b"}, {"?x", "?x"}} {
				if n, ok := impl.Instantiate(patternOf(p...), l); n.Parts != nil || ok {
					t.Errorf("Instantiate(%q, %q) = %q, %v, want the zero Name, false", p, l, n.Parts, ok)
				}
			}
		}
	}
}

var (
	sparePattern  = []string{"?x", "*", "a", "?y", "**", "b", "A"}
	spareBindings = bindings("?x", "q", "?y", "q", "?z", "q", "?a", "q", "?b", "q", "?c", "q", "?d", "q", "?e", "q")
)

// What lies behind a pattern's parts, and behind the last binding, counts for nothing.
func TestSparePatternsAreNotRead(t *testing.T) {
	p := impl.Pattern{Parts: []string{"?x", "**", "B"}[:1]}
	open := impl.Pattern{Parts: []string{"?x", "**", "B"}[:2]}
	n := impl.Name{Parts: []string{"a", "b", "C"}[:1]}
	l := bindings("?y", "b", "?x", "c")[:1]
	if !impl.ValidPattern(p) || !impl.ValidPattern(open) || impl.FormatPattern(p) != "/?x" || impl.FormatPattern(open) != "/?x/**" {
		t.Errorf("ValidPattern or FormatPattern = %q, %q", impl.FormatPattern(p), impl.FormatPattern(open))
	}
	want := bindings("?y", "b", "?x", "a")
	for _, q := range []impl.Pattern{p, open} {
		if got, ok := impl.Match(q, n, l); !slices.Equal(got, want) || !ok || !impl.Matches(q, n) {
			t.Errorf("Match of %q = %q, %v, want %q, true", q.Parts, got, ok, want)
		}
	}
	if got := impl.BindingValue(l, "?x"); got != "" {
		t.Errorf("BindingValue = %q", got)
	}
	if got, ok := impl.Instantiate(p, l); got.Parts != nil || ok {
		t.Errorf("Instantiate = %q, %v", got.Parts, ok)
	}
	if got, ok := impl.Instantiate(p, bindings("?x", "c", "?y", "b")[:1]); !slices.Equal(got.Parts, []string{"c"}) || !ok {
		t.Errorf("Instantiate = %q, %v", got.Parts, ok)
	}
}

// memoryCases are matches that succeed, with and without new bindings, and matches that fail, before and behind new bindings.
var memoryCases = []struct {
	p, n []string
	l    []impl.Binding
}{
	{nil, nil, nil}, {nil, nil, bindings("?x", "a")}, {[]string{"**"}, nil, bindings("?x", "a")}, {[]string{"a"}, []string{"a"}, nil}, {[]string{"*"}, []string{"a"}, bindings("?x", "b")},
	{[]string{"?x"}, []string{"a"}, nil}, {[]string{"?x"}, []string{"a"}, bindings("?x", "a")}, {[]string{"?x", "?y", "**"}, []string{"a", "b", "c"}, bindings("?x", "a")}, {[]string{"?a", "?b", "?c", "?d", "?e", "?f"}, []string{"1", "2", "3", "4", "5", "6"}, bindings("?c", "3", "?x", "")},
	{[]string{"?x", "?x"}, []string{"a", "b"}, nil}, {[]string{"?x", "?y", "a"}, []string{"a", "b", "c"}, bindings("?z", "a")}, {[]string{"?x"}, []string{"a"}, bindings("?x", "b")}, {[]string{"?x", "?y"}, []string{"a"}, bindings("?z", "a", "?z", "b")}, {[]string{"?x"}, []string{"a", "b"}, bindings("?z", "a")},
	{[]string{"**", "?x"}, []string{"a"}, bindings("?z", "a")}, {[]string{"?x", "?"}, []string{"a", "b"}, bindings("?z", "a")}, {[]string{"?x", "*"}, []string{"a", "B"}, bindings("?z", "a")}, {[]string{"A"}, []string{"A"}, nil},
}

func TestPatternsNamesAndBindingsAreLeftAsTheyAre(t *testing.T) {
	for _, c := range memoryCases {
		p, n, l := guardWith(c.p, sparePattern), guardWith(c.n, spareParts), guardWith(c.l, spareBindings)
		pattern, name := impl.Pattern{Parts: p.slice}, impl.Name{Parts: n.slice}
		calls := []struct {
			what string
			call func()
		}{
			{"ValidPattern", func() { impl.ValidPattern(pattern) }},
			{"Match", func() { impl.Match(pattern, name, l.slice) }},
			{"Matches", func() { impl.Matches(pattern, name) }},
			{"BindingValue", func() { impl.BindingValue(l.slice, "?x") }},
			{"FormatPattern", func() { impl.FormatPattern(pattern) }},
			{"Instantiate", func() { impl.Instantiate(pattern, l.slice) }},
		}
		for _, c := range calls {
			c.call()
			p.check(t, c.what+", the pattern")
			n.check(t, c.what+", the name")
			l.check(t, c.what+", the bindings")
		}
	}
}

func TestMatchesAreNewMemory(t *testing.T) {
	for _, c := range memoryCases {
		l := guardWith(c.l, spareBindings)
		pattern, name := patternOf(c.p...), nameOf(c.n...)
		first, _ := impl.Match(pattern, name, l.slice)
		second, _ := impl.Match(pattern, name, l.slice)
		want := slices.Clone(second)
		whole := first[:cap(first)]
		for i := range whole {
			whole[i] = impl.Binding{Letter: "changed", Value: "changed"}
		}
		l.check(t, "Match, its result changed")
		if !slices.Equal(second, want) {
			t.Errorf("Match(%q, %q, %q): two results share memory", c.p, c.n, c.l)
		}
	}
}

func TestPatternsAreNewMemory(t *testing.T) {
	for _, parts := range [][]string{nil, {}, {"a"}, {"?x"}, {"?x", "b", "?y", "?x"}, {"a", "b", "c", "d", "e", "f"}, {"?y", "?z"}, {"*"}, {"**"}, {"A"}} {
		l := guardWith(bindings("?x", "a", "?y", "b"), spareBindings)
		checkNewParts(t, "Instantiate", nameOf(parts...), func(n impl.Name) impl.Name {
			result, _ := impl.Instantiate(impl.Pattern(n), l.slice)
			return result
		})
		l.check(t, "Instantiate, the bindings")
		checkNewParts(t, "ParsePattern", nameOf(parts...), func(n impl.Name) impl.Name {
			result, _ := impl.ParsePattern(impl.FormatPattern(impl.Pattern(n)))
			return impl.Name(result)
		})
	}
}
