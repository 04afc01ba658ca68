package tests

import (
	"fmt"
	"regexp"
	"slices"
	"strings"
	"testing"

	"loop.example/g00507/impl"
)

// ruleOf makes a rule, valid or not, of its text.
func ruleOf(s string) impl.Rule {
	data, key, _ := strings.Cut(s, " < ")
	return ruleOfParts(named(data).Parts, named(key).Parts)
}

func ruleOfParts(data, key []string) impl.Rule {
	return impl.Rule{DataPattern: patternOf(data...), KeyPattern: patternOf(key...)}
}

// rulesOf makes rules, valid or not, of their texts.
func rulesOf(texts ...string) []impl.Rule {
	l := []impl.Rule{}
	for _, s := range texts {
		l = append(l, ruleOf(s))
	}
	return l
}

// numberedRules are valid rules; each allows the key /key/n000 and so on for the name of the same number only.
func numberedRules(length int) []impl.Rule {
	l := []impl.Rule{}
	for i := range length {
		l = append(l, ruleOfParts(numberedName(i).Parts, numberedKeyName(i).Parts))
	}
	return l
}

func numberedKeyName(i int) impl.Name {
	return nameOf("key", numberedName(i).Parts[0])
}

// rulesText is the same for equal lists of rules only.
func rulesText(l []impl.Rule) string {
	text := ""
	for _, r := range l {
		text += fmt.Sprintf("%q<%q ", r.DataPattern.Parts, r.KeyPattern.Parts)
	}
	return text
}

func ruleText(r impl.Rule) string {
	return rulesText([]impl.Rule{r})
}

var (
	emptyRules = [][]impl.Rule{nil, {}, rulesOf("/a < /b", "/?x < /?x")[:0]}

	validRuleTexts = []string{
		"/?x/** < /?x/key", "/b/1 < /key/a", "/?x < /?x", "/?x < /?x/?x", "/?x/?x < /?x", "/?x/?y < /?y/?x", "/?x/*/?x < /?x/?x/*", "/*/?a/** < /?a/**", "/?a/?b/?c/?d/?e/?f < /?f/?e/?d/?c/?b/?a", "/?a/?a/?a/?a/?a/?a < /?a/?a/?a/?a/?a/?a",
		// A variable of the DataPattern may be one that the KeyPattern does not have.
		"/?x < /key", "/?x/?y < /?y", "/?x/?y/?x < /?x/*", "/?z/** < /**", "/?x/?y/?z < /?y", "/?a/?b/?c/?d/?e < /?e/key",
		// Rules without variables.
		"/ < /", "/a < /", "/ < /a", "/a < /a", "/a < /b", "/x < /y", "/* < /*", "/a < /*", "/* < /a", "/** < /**", "/** < /key", "/a < /**", "/** < /", "/ < /**", "/*/** < /*/**", "/a/b/c/d/e/f < /a/b/c/d/e/f", "/a/*/c/*/e/** < /*/b/*/d/*/**", "/abcdefgh/12345678 < /--------",
	}

	// Each of these has two valid patterns, and a variable of the KeyPattern that the DataPattern does not have.
	unboundRuleTexts = []string{
		"/a < /?x", "/ < /?x", "/x < /?x", "/* < /?x", "/** < /?x", "/*/** < /?x", "/x/*/** < /a/?x/**", "/?y < /?x", "/?x < /?y", "/?a < /?b", "/?x < /?x/?y", "/?x < /?y/?x", "/?x/?y < /?x/?y/?z", "/?x/?y < /?z", "/a < /?x/?x", "/key/a < /key/?a",
		"/?a/?b/?c/?d/?e/** < /?a/?b/?c/?d/?e/?f", "/?a/?b/?c/?d/?e/?e < /?f/?a/?b/?c/?d/?e", "/a/b/c/d/e/f < /a/b/c/d/e/?f", "/?y/** < /?x/**", "/?z < /?z/?z/?z/?z/?z/?y",
	}

	// Each of these has a pattern that is not valid.
	brokenRuleTexts = []string{
		"/**/a < /a", "/a < /**/a", "/**/** < /a", "/a < /**/**", "/**/?x < /?x", "/?x < /**/?x", "/? < /?", "/a < /?", "/? < /a", "/?X < /?X", "/?X < /a", "/?x < /?X", "/?1 < /?1", "/?xy < /?xy", "/?x < /?xy", "/?xy < /?x", "/*** < /a", "/a < /***", "/*a < /a", "/a < /*a",
		"/A < /a", "/a < /A", "/A < /A", "/nine99999 < /a", "/a < /nine99999", "/nine99999 < /nine99999", "// < /", "/ < //", "/a/ < /a", "/a < /a/", "/a b < /a", "/a < /a b", "/a < /b < /c", "/\xff < /a", "/a < /\xff", "/\u00e9 < /\u00e9",
		"/a/b/c/d/e/f/g < /a", "/a < /a/b/c/d/e/f/g", "/a/b/c/d/e/f/** < /a", "/a < /a/b/c/d/e/f/**", "/*/*/*/*/*/*/* < /a", "/?a/?b/?c/?d/?e/?f/?g < /?g", "/?x < /?x/?x/?x/?x/?x/?x/?x", "/?x/?x/?x/?x/?x/?x/?x < /?x", "/?x/?x/?x/?x/?x/?x/?x < /?x/?x/?x/?x/?x/?x/?x",
	}
)

// model10Valid follows the document's words without the program.
func model10Valid(data, key []string) bool {
	free := slices.ContainsFunc(key, func(s string) bool {
		return wantVariable.MatchString(s) && !slices.Contains(data, s)
	})
	return model5Valid(data) && model5Valid(key) && !free
}

// model10Fits tells whether the name is one of a pattern in which each variable stands for its value.
func model10Fits(p, n []string, values map[string]string) bool {
	if last := len(p) - 1; last >= 0 && p[last] == "**" {
		p = p[:last]
		n = n[:min(len(n), last)]
	}
	if len(p) != len(n) {
		return false
	}
	for i, s := range p {
		if value, isVariable := values[s]; isVariable {
			s = value
		}
		if s != "*" && s != n[i] {
			return false
		}
	}
	return true
}

// model10Allows tries all values that the variables may have: a key is allowed if both names fit with the same ones.
func model10Allows(data, key, n, k []string) bool {
	if !model10Valid(data, key) || !wantValidName(nameOf(n...)) || !wantValidName(nameOf(k...)) {
		return false
	}
	letters := []string{}
	for _, s := range data {
		if wantVariable.MatchString(s) && !slices.Contains(letters, s) {
			letters = append(letters, s)
		}
	}
	values := map[string]string{}
	var fits func(at int) bool
	fits = func(at int) bool {
		if at == len(letters) {
			return model10Fits(data, n, values) && model10Fits(key, k, values)
		}
		return slices.ContainsFunc(n, func(value string) bool {
			values[letters[at]] = value
			return fits(at + 1)
		})
	}
	return fits(0)
}

func TestTheLimitOfRulesIsThatOfTheDocument(t *testing.T) {
	if impl.MaxRules != 8 {
		t.Errorf("MaxRules = %d", impl.MaxRules)
	}
}

func TestValidRule(t *testing.T) {
	for _, s := range validRuleTexts {
		if !impl.ValidRule(ruleOf(s)) {
			t.Errorf("ValidRule of %q = false", s)
		}
	}
	for _, s := range slices.Concat(unboundRuleTexts, brokenRuleTexts) {
		if impl.ValidRule(ruleOf(s)) {
			t.Errorf("ValidRule of %q = true", s)
		}
	}
	for _, data := range emptyPatterns {
		for _, key := range emptyPatterns {
			if !impl.ValidRule(impl.Rule{DataPattern: data, KeyPattern: key}) {
				t.Errorf("ValidRule(%q, %q) = false", data.Parts, key.Parts)
			}
		}
		if impl.ValidRule(impl.Rule{DataPattern: data, KeyPattern: patternOf("?x")}) {
			t.Errorf("ValidRule(%q, ?x) = true", data.Parts)
		}
	}
	long := slices.Repeat([]string{"?x"}, 1000)
	if impl.ValidRule(ruleOfParts(long, long)) || impl.ValidRule(ruleOfParts([]string{"?x"}, long)) || impl.ValidRule(ruleOfParts(long, []string{"?x"})) {
		t.Error("ValidRule of 1000 parts = true")
	}
}

func TestValidRuleOfAllShortPatterns(t *testing.T) {
	all := slices.Concat(sequences([]string{"a", "x", "*", "?x", "?y", "**"}, 3), sequences([]string{"?", "", "?x", "A"}, 2))
	for _, data := range all {
		for _, key := range all {
			if got, want := impl.ValidRule(ruleOfParts(data, key)), model10Valid(data, key); got != want {
				t.Fatalf("ValidRule(%q, %q) = %v, want %v", data, key, got, want)
			}
		}
	}
}

// A part that is in both patterns makes neither of them valid.
func TestValidRuleOfEachPart(t *testing.T) {
	all := slices.Concat(onePartPatterns, noPatternParts, []string{"**"})
	for _, data := range all {
		for _, key := range all {
			for _, r := range []impl.Rule{
				ruleOfParts([]string{data}, []string{key}), ruleOfParts([]string{"?x", data}, []string{"?x", key}), ruleOfParts([]string{data, "?q"}, []string{key, "?q"}), ruleOfParts([]string{"a", data}, []string{key}),
			} {
				if got, want := impl.ValidRule(r), model10Valid(r.DataPattern.Parts, r.KeyPattern.Parts); got != want {
					t.Errorf("ValidRule(%s) = %v, want %v", ruleText(r), got, want)
				}
			}
		}
	}
}

func TestEachLetterOfARule(t *testing.T) {
	for data := 'a'; data <= 'z'; data++ {
		for key := 'a'; key <= 'z'; key++ {
			d, k := "?"+string(data), "?"+string(key)
			for _, r := range []impl.Rule{ruleOfParts([]string{d}, []string{k}), ruleOfParts([]string{"a", d, "**"}, []string{"*", d, k})} {
				if got := impl.ValidRule(r); got != (data == key) {
					t.Errorf("ValidRule(%s) = %v", ruleText(r), got)
				}
				if got := impl.RuleAllows(r, nameOf("v"), nameOf("v")); got != (data == key && len(r.DataPattern.Parts) == 1) {
					t.Errorf("RuleAllows(%s) = %v", ruleText(r), got)
				}
			}
			if impl.ValidRule(ruleOfParts([]string{string(data)}, []string{k})) {
				t.Errorf("ValidRule of the part %q and the variable %q = true", data, k)
			}
		}
	}
}

// The variable is found at each place of the DataPattern, and missed at each place of the KeyPattern.
func TestEachPlaceOfAVariable(t *testing.T) {
	for length := 1; length <= 6; length++ {
		for dataAt := range length {
			for keyAt := range 6 {
				data, key := slices.Repeat([]string{"*"}, length), slices.Repeat([]string{"key"}, 6)
				data[dataAt], key[keyAt] = "?m", "?m"
				if !impl.ValidRule(ruleOfParts(data, key)) {
					t.Errorf("ValidRule(%q, %q) = false", data, key)
				}
				n, k := slices.Repeat([]string{"q"}, length), slices.Repeat([]string{"key"}, 6)
				n[dataAt], k[keyAt] = "v", "v"
				if !impl.RuleAllows(ruleOfParts(data, key), nameOf(n...), nameOf(k...)) {
					t.Errorf("RuleAllows(%q, %q, %q, %q) = false", data, key, n, k)
				}
				k[keyAt] = "q"
				if impl.RuleAllows(ruleOfParts(data, key), nameOf(n...), nameOf(k...)) {
					t.Errorf("RuleAllows(%q, %q, %q, %q) = true", data, key, n, k)
				}
				data[dataAt] = "?n"
				if impl.ValidRule(ruleOfParts(data, key)) || impl.RuleAllows(ruleOfParts(data, key), nameOf(n...), nameOf(k...)) {
					t.Errorf("ValidRule or RuleAllows(%q, %q) = true", data, key)
				}
			}
		}
	}
}

func TestValidRules(t *testing.T) {
	for _, l := range emptyRules {
		if !impl.ValidRules(l) {
			t.Errorf("ValidRules(%s) = false", rulesText(l))
		}
	}
	for length := range 8 {
		if l := rulesOf(validRuleTexts[length : length+8]...); !impl.ValidRules(l) {
			t.Errorf("ValidRules(%s) = false", rulesText(l))
		}
	}
	// A rule may occur twice.
	for _, s := range validRuleTexts {
		for length := range 9 {
			if !impl.ValidRules(slices.Repeat(rulesOf(s), length)) {
				t.Errorf("ValidRules of %d times %q = false", length, s)
			}
		}
		for _, length := range []int{9, 10, 16, 256, 256 + 8} {
			if impl.ValidRules(slices.Repeat(rulesOf(s), length)) {
				t.Errorf("ValidRules of %d times %q = true", length, s)
			}
		}
	}
	if !impl.ValidRules(make([]impl.Rule, 8)) || impl.ValidRules(make([]impl.Rule, 9)) {
		t.Error("ValidRules of zero rules")
	}
}

func TestValidRulesOfEachLength(t *testing.T) {
	for _, length := range []int{0, 1, 2, 3, 4, 5, 6, 7, 8, 9, 10, 16, 20, 256, 256 + 7} {
		l := numberedRules(length)
		if got := impl.ValidRules(l); got != (length <= 8) {
			t.Errorf("ValidRules of %d rules = %v", length, got)
		}
		for i := range min(length, 10) {
			for _, s := range []string{"/a < /?x", "/**/a < /a", "/a < /A"} {
				invalid := slices.Clone(l)
				invalid[i] = ruleOf(s)
				if impl.ValidRules(invalid) {
					t.Errorf("ValidRules of %d rules with %q at %d = true", length, s, i)
				}
			}
		}
	}
	for _, s := range slices.Concat(unboundRuleTexts, brokenRuleTexts) {
		if impl.ValidRules(rulesOf(s)) || impl.ValidRules(rulesOf(s, "/a < /b")) || impl.ValidRules(rulesOf("/?x < /?x", s)) {
			t.Errorf("ValidRules with %q = true", s)
		}
	}
}

func TestRuleAllows(t *testing.T) {
	cases := []struct {
		rule, name string
		yes, no    []string
	}{
		{"/?x/** < /?x/key", "/a/1/2", []string{"/a/key"}, []string{"/b/key", "/1/key", "/a", "/key", "/key/a", "/a/key/1", "/a/keys", "/a/ke", "/", "/aa/key", "/x/key"}},
		{"/?x/** < /?x/key", "/b", []string{"/b/key"}, []string{"/a/key", "/b", "/"}},
		{"/?x/** < /?x/key", "/x/1", []string{"/x/key"}, []string{"/a/key", "/1/key"}},
		{"/?x/** < /?x/key", "/", nil, []string{"/", "/key", "/a/key"}},
		{"/?x < /?x", "/a", []string{"/a"}, []string{"/b", "/", "/a/a", "/aa", "/x"}},
		{"/?x < /?x", "/a/a", nil, []string{"/a", "/a/a", "/"}},
		// A variable that occurs twice has one value.
		{"/?x/?x < /?x", "/a/a", []string{"/a"}, []string{"/b", "/a/a", "/"}},
		{"/?x/?x < /?x", "/a/b", nil, []string{"/a", "/b", "/a/b", "/"}},
		{"/?x < /?x/?x", "/a", []string{"/a/a"}, []string{"/a/b", "/b/a", "/b/b", "/a", "/a/a/a"}},
		{"/?x/*/?x < /?x/?x/*", "/a/b/a", []string{"/a/a/a", "/a/a/b", "/a/a/c"}, []string{"/a/b/a", "/b/b/a", "/a/a"}},
		{"/?x/*/?x < /?x/?x/*", "/a/a/b", nil, []string{"/a/a/a", "/a/a/b", "/b/b/a"}},
		// Several variables.
		{"/?x/?y < /?y/?x", "/a/b", []string{"/b/a"}, []string{"/a/b", "/a/a", "/b/b", "/b", "/a"}},
		{"/?x/?y < /?y/?x", "/a/a", []string{"/a/a"}, []string{"/a/b", "/b/a"}},
		{"/?x/?y < /?x/*/?y", "/a/b", []string{"/a/b/b", "/a/a/b", "/a/q/b"}, []string{"/a/b", "/b/q/a", "/a/q/a", "/a/q/b/b"}},
		{"/?a/?b/?c/?d/?e/?f < /?f/?e/?d/?c/?b/?a", "/1/2/3/4/5/6", []string{"/6/5/4/3/2/1"}, []string{"/1/2/3/4/5/6", "/6/5/4/3/2", "/6/5/4/3/1/2", "/5/6/4/3/2/1"}},
		// A variable that only the DataPattern has.
		{"/?x/?y < /?x/key", "/a/b", []string{"/a/key"}, []string{"/b/key", "/a/b", "/a"}},
		{"/?x < /key", "/a", []string{"/key"}, []string{"/a", "/a/key", "/", "/x"}},
		// Variables and stars.
		{"/*/?x/** < /?x/root", "/q/a", []string{"/a/root"}, []string{"/q/root", "/a", "/a/q"}},
		{"/*/?x/** < /?x/root", "/q/a/b/c/d/e", []string{"/a/root"}, []string{"/q/root", "/b/root", "/e/root"}},
		{"/?x/** < /?x/**", "/a/1", []string{"/a", "/a/1", "/a/z/z", "/a/b/c/d/e/f"}, []string{"/", "/b", "/1", "/1/a", "/b/a"}},
		{"/?x/** < /**", "/a", []string{"/", "/a", "/b", "/a/b/c/d/e/f"}, nil},
		{"/?x/** < /**", "/", nil, []string{"/", "/a"}},
	}
	for _, c := range cases {
		checkAllows(t, c.rule, c.name, c.yes, true)
		checkAllows(t, c.rule, c.name, c.no, false)
	}
}

func checkAllows(t *testing.T, rule string, name string, keys []string, want bool) {
	t.Helper()
	for _, key := range keys {
		if got := impl.RuleAllows(ruleOf(rule), named(name), named(key)); got != want {
			t.Errorf("RuleAllows of %q, %q and %q = %v, want %v", rule, name, key, got, want)
		}
	}
}

func TestRulesWithoutVariables(t *testing.T) {
	cases := []struct {
		rule    string
		names   []string
		others  []string
		keys    []string
		notKeys []string
	}{
		{"/b/1 < /key/a", []string{"/b/1"}, []string{"/b/2", "/b", "/b/1/1", "/key/a", "/", "/a/1"}, []string{"/key/a"}, []string{"/key/b", "/key", "/b/1", "/a/key", "/key/a/a", "/"}},
		{"/a < /a", []string{"/a"}, []string{"/b", "/", "/a/a"}, []string{"/a"}, []string{"/b", "/", "/a/a", "/aa"}},
		{"/x < /y", []string{"/x"}, []string{"/y", "/a"}, []string{"/y"}, []string{"/x", "/a"}},
		{"/ < /", []string{"/"}, []string{"/a", "/a/b"}, []string{"/"}, []string{"/a", "/a/b"}},
		{"/ < /a", []string{"/"}, []string{"/a", "/a/b"}, []string{"/a"}, []string{"/", "/b"}},
		{"/a < /", []string{"/a"}, []string{"/", "/b"}, []string{"/"}, []string{"/a", "/b"}},
		{"/* < /*", []string{"/a", "/b", "/12345678"}, []string{"/", "/a/b"}, []string{"/a", "/b", "/c", "/-"}, []string{"/", "/a/b"}},
		{"/a/* < /key/*", []string{"/a/a", "/a/b"}, []string{"/a", "/b/a", "/a/b/c"}, []string{"/key/a", "/key/b", "/key/c"}, []string{"/key", "/a/b", "/key/a/b"}},
		{"/*/* < /*/*", []string{"/a/b", "/a/a"}, []string{"/a", "/a/b/c"}, []string{"/b/a", "/a/a", "/c/d"}, []string{"/a", "/a/b/c"}},
		{"/** < /key", []string{"/", "/a", "/a/b", "/a/b/c/d/e/f", "/key"}, nil, []string{"/key"}, []string{"/", "/a", "/a/b", "/key/a"}},
		{"/a/** < /a", []string{"/a", "/a/b", "/a/b/c/d/e/f"}, []string{"/", "/b", "/b/a", "/aa"}, []string{"/a"}, []string{"/", "/b", "/a/b"}},
		{"/a < /**", []string{"/a"}, []string{"/", "/b", "/a/b"}, []string{"/", "/a", "/b", "/a/b/c/d/e/f"}, nil},
		{"/** < /**", []string{"/", "/a", "/b", "/a/b/c/d/e/f"}, nil, []string{"/", "/a", "/b", "/f/e/d/c/b/a"}, nil},
		{"/*/** < /root/**", []string{"/a", "/a/b"}, []string{"/"}, []string{"/root", "/root/a"}, []string{"/", "/a", "/a/root"}},
	}
	for _, c := range cases {
		for _, n := range c.names {
			checkAllows(t, c.rule, n, c.keys, true)
			checkAllows(t, c.rule, n, c.notKeys, false)
		}
		for _, n := range c.others {
			checkAllows(t, c.rule, n, slices.Concat(c.keys, c.notKeys), false)
		}
	}
}

func TestRuleAllowsNoInvalidName(t *testing.T) {
	for _, s := range []string{"/** < /**", "/*/** < /*/**", "/?x < /**", "/** < /*", "/* < /*", "/?x/** < /?x/**", "/a < /**", "/** < /a", "/ < /**", "/** < /"} {
		for _, bad := range notNames {
			for _, good := range slices.Concat(emptyNames, dataNames) {
				if impl.RuleAllows(ruleOf(s), bad, good) || impl.RuleAllows(ruleOf(s), good, bad) || impl.RuleAllows(ruleOf(s), bad, bad) {
					t.Errorf("RuleAllows of %q, %q and %q = true", s, bad.Parts, good.Parts)
				}
				checkFirst(t, rulesOf(s, s), bad, good, -1)
				checkFirst(t, rulesOf(s, s), good, bad, -1)
			}
		}
	}
}

// A rule that is not valid allows nothing, though its patterns, or the valid one of them, match.
func TestInvalidRulesAllowNothing(t *testing.T) {
	names := slices.Concat(emptyNames, dataNames, notNames, []impl.Name{nameOf("b"), nameOf("a", "a"), nameOf("x"), nameOf("key", "a")})
	for _, s := range slices.Concat(unboundRuleTexts, brokenRuleTexts) {
		for _, n := range append([]impl.Name{named(strings.Split(s, " < ")[0])}, names...) {
			for _, key := range append([]impl.Name{named(strings.SplitN(s, " < ", 2)[1])}, names...) {
				if impl.RuleAllows(ruleOf(s), n, key) {
					t.Errorf("RuleAllows of %q, %q and %q = true", s, n.Parts, key.Parts)
				}
				checkFirst(t, rulesOf(s), n, key, -1)
			}
		}
	}
}

func TestRuleAllowsWithAllShortPatterns(t *testing.T) {
	names, keys := sequences([]string{"a", "b"}, 3), sequences([]string{"a", "b"}, 2)
	count := 0
	for _, data := range sequences([]string{"a", "*", "?x", "?y", "**"}, 3) {
		for _, key := range sequences([]string{"a", "*", "?x", "?y", "**"}, 2) {
			r := ruleOfParts(data, key)
			for _, n := range names {
				for _, k := range keys {
					want := model10Allows(data, key, n, k)
					if got := impl.RuleAllows(r, nameOf(n...), nameOf(k...)); got != want {
						t.Fatalf("RuleAllows(%q, %q, %q, %q) = %v, want %v", data, key, n, k, got, want)
					}
					if want {
						count++
					}
				}
			}
		}
	}
	if count < 5000 {
		t.Errorf("%d keys are allowed", count)
	}
}

// Of all keys, a rule whose KeyPattern has no stars allows the one in which its variables have the values of the name.
func TestARuleAllowsExactlyOneKeyForAName(t *testing.T) {
	keys := sequences([]string{"a", "b", "c", "x"}, 3)
	for _, data := range sequences([]string{"a", "?x", "?y"}, 3) {
		for _, key := range sequences([]string{"a", "?x", "?y"}, 3) {
			r := ruleOfParts(data, key)
			if !model10Valid(data, key) {
				continue
			}
			for _, l := range [][]impl.Binding{bindings("?x", "a", "?y", "b"), bindings("?x", "b", "?y", "b"), bindings("?x", "c", "?y", "x"), bindings("?x", "b", "?y", "a")} {
				n, _ := impl.Instantiate(r.DataPattern, l)
				want, _ := impl.Instantiate(r.KeyPattern, l)
				for _, k := range keys {
					if got := impl.RuleAllows(r, n, nameOf(k...)); got != slices.Equal(k, want.Parts) {
						t.Fatalf("RuleAllows(%q, %q, %q, %q) = %v; the key is %q", data, key, n.Parts, k, got, want.Parts)
					}
				}
			}
		}
	}
}

// checkFirst holds FirstAllowingRule and Allowed against the index of a rule.
func checkFirst(t *testing.T, l []impl.Rule, n, key impl.Name, want int) {
	t.Helper()
	if got := impl.FirstAllowingRule(l, n, key); got != want {
		t.Errorf("FirstAllowingRule(%s, %q, %q) = %d, want %d", rulesText(l), n.Parts, key.Parts, got, want)
	}
	if got := impl.Allowed(l, n, key); got != (want >= 0) {
		t.Errorf("Allowed(%s, %q, %q) = %v", rulesText(l), n.Parts, key.Parts, got)
	}
}

func TestFirstAllowingRule(t *testing.T) {
	for _, none := range emptyRules {
		for _, n := range slices.Concat(emptyNames, dataNames, notNames) {
			checkFirst(t, none, n, n, -1)
			checkFirst(t, none, n, nameOf("key", "a"), -1)
		}
	}
	l := rulesOf("/?x/** < /?x/key", "/b/1 < /key/a", "/b/** < /b/key", "/b/1 < /key/a", "/?x/?x < /?x", "/ < /")
	cases := []struct {
		name, key string
		want      int
	}{
		{"/a/1", "/a/key", 0}, {"/b/1", "/b/key", 0}, {"/b/1", "/key/a", 1}, {"/b/2", "/key/a", -1}, {"/b/2", "/b/key", 0}, {"/a/a", "/a", 4}, {"/a/a", "/a/key", 0}, {"/a/b", "/a", -1}, {"/", "/", 5}, {"/", "/a", -1}, {"/a", "/", -1}, {"/key/a", "/b/1", -1}, {"/b/1", "/b/1", -1},
	}
	for _, c := range cases {
		checkFirst(t, l, named(c.name), named(c.key), c.want)
		// Behind the same rules, all that they allow is allowed already.
		checkFirst(t, slices.Concat(l, l), named(c.name), named(c.key), c.want)
	}
	// The order of the rules is that of the list, not of their texts or of the number of their variables.
	checkFirst(t, rulesOf("/b < /b", "/a < /b", "/?x < /b", "/* < /*"), named("/a"), named("/b"), 1)
	checkFirst(t, rulesOf("/* < /*", "/?x < /b", "/a < /b"), named("/a"), named("/b"), 0)
	checkFirst(t, rulesOf("/c < /**", "/?x < /?x", "/?x < /b", "/a < /b"), named("/a"), named("/b"), 2)
}

// The list as a whole need not be valid; its rules that are not valid are passed over.
func TestFirstAllowingRuleBehindInvalidRules(t *testing.T) {
	for _, s := range slices.Concat(unboundRuleTexts, brokenRuleTexts) {
		checkFirst(t, rulesOf(s, "/?x/** < /?x/key"), named("/a/1"), named("/a/key"), 1)
		checkFirst(t, rulesOf("/?x/** < /?x/key", s), named("/a/1"), named("/a/key"), 0)
		checkFirst(t, rulesOf(s, s, "/z < /z", s, "/** < /**", s), named("/a"), named("/a"), 4)
		checkFirst(t, rulesOf(s, s, "/z < /z", s), named("/a"), named("/a"), -1)
	}
}

func TestFirstAllowingRuleOfAListOfEachLength(t *testing.T) {
	for _, length := range []int{0, 1, 2, 3, 7, 8, 9, 10, 15, 16, 17, 18, 24, 25, 100, 256 + 9} {
		l := numberedRules(length)
		for i := range length + 2 {
			want := i
			if i >= length {
				want = -1
			}
			checkFirst(t, l, numberedName(i), numberedKeyName(i), want)
			checkFirst(t, l, numberedName(i), numberedKeyName(i+1), -1)
			// The same rules again are found by the first ones.
			checkFirst(t, slices.Concat(l, l), numberedName(i), numberedKeyName(i), want)
		}
		checkFirst(t, append(slices.Clone(l), ruleOf("/** < /**")), nameOf("a"), nameOf("b"), length)
		checkFirst(t, slices.Concat(make([]impl.Rule, length), rulesOf("/a < /b")), nameOf("a"), nameOf("b"), length)
	}
}

func TestAllowedByAllShortLists(t *testing.T) {
	some := []string{"/?x/** < /?x/b", "/a/* < /*", "/?x/?y < /?y/?x", "/ < /", "/a < /?x", "/**/a < /a", "/?x/?x < /?x"}
	names, keys := sequences([]string{"a", "b"}, 2), sequences([]string{"a", "b"}, 2)
	for _, digits := range sequences(strings.Split("0123456", ""), 3) {
		l := []impl.Rule{}
		for _, digit := range digits {
			l = append(l, ruleOf(some[digit[0]-'0']))
		}
		for _, n := range names {
			for _, k := range keys {
				want := slices.IndexFunc(l, func(r impl.Rule) bool {
					return model10Allows(r.DataPattern.Parts, r.KeyPattern.Parts, n, k)
				})
				checkFirst(t, l, nameOf(n...), nameOf(k...), want)
			}
		}
		if t.Failed() {
			return
		}
	}
}

func TestFormatRule(t *testing.T) {
	// Rules that are not valid have a text, too.
	for _, s := range slices.Concat(validRuleTexts, unboundRuleTexts, brokenRuleTexts) {
		if got := impl.FormatRule(ruleOf(s)); got != s {
			t.Errorf("FormatRule = %q, want %q", got, s)
		}
	}
	cases := []struct {
		data, key []string
		want      string
	}{
		{nil, nil, "/ < /"}, {[]string{}, []string{}, "/ < /"}, {[]string{"a"}[:0], []string{"b"}[:0], "/ < /"}, {nil, []string{"?x"}, "/ < /?x"}, {[]string{"?x", "**"}, []string{"?x", "key"}, "/?x/** < /?x/key"},
		{[]string{""}, []string{"", ""}, "/ < //"}, {[]string{"a/b"}, []string{"a", "/"}, "/a/b < /a//"}, {[]string{" < "}, []string{"<", " "}, "/ <  < /</ "}, {[]string{"\xff"}, []string{"\u00e9"}, "/\xff < /\u00e9"}, {slices.Repeat([]string{"?x"}, 300), []string{"A"}, strings.Repeat("/?x", 300) + " < /A"},
	}
	for _, c := range cases {
		if got := impl.FormatRule(ruleOfParts(c.data, c.key)); got != c.want {
			t.Errorf("FormatRule(%q, %q) = %q, want %q", c.data, c.key, got, c.want)
		}
	}
}

var wantVariableText = regexp.MustCompile(`\?[a-z]`)

// wantRuleText tells, by regular expressions, whether s is the text of a valid rule.
func wantRuleText(s string) bool {
	texts := strings.Split(s, " < ")
	if len(texts) != 2 || !wantPatternText.MatchString(texts[0]) || !wantPatternText.MatchString(texts[1]) {
		return false
	}
	for _, letter := range wantVariableText.FindAllString(texts[1], -1) {
		if !strings.Contains(texts[0], letter) {
			return false
		}
	}
	return true
}

func checkParseRule(t *testing.T, s string) {
	t.Helper()
	r, ok := impl.ParseRule(s)
	if want := wantRuleText(s); ok != want {
		t.Fatalf("ParseRule(%q) = %s, %v, want %v", s, ruleText(r), ok, want)
	}
	if !ok && (r.DataPattern.Parts != nil || r.KeyPattern.Parts != nil) {
		t.Fatalf("ParseRule(%q) = %s, false, want the zero Rule", s, ruleText(r))
	}
	if ok && (!model10Valid(r.DataPattern.Parts, r.KeyPattern.Parts) || impl.FormatRule(r) != s) {
		t.Fatalf("ParseRule(%q) = %s, which is not valid or has another text", s, ruleText(r))
	}
}

func TestParseRule(t *testing.T) {
	for _, s := range validRuleTexts {
		if r, ok := impl.ParseRule(s); !ok || ruleText(r) != ruleText(ruleOf(s)) {
			t.Errorf("ParseRule(%q) = %s, %v", s, ruleText(r), ok)
		}
	}
	r, ok := impl.ParseRule("/?x/** < /?x/key")
	if !ok || !slices.Equal(r.DataPattern.Parts, []string{"?x", "**"}) || !slices.Equal(r.KeyPattern.Parts, []string{"?x", "key"}) {
		t.Errorf("ParseRule = %s, %v", ruleText(r), ok)
	}
}

func TestParseRuleRejects(t *testing.T) {
	texts := slices.Concat(unboundRuleTexts, brokenRuleTexts, []string{
		"", " ", "<", " <", "< ", " < ", " <  < ", "/", "/a", "/a/b", "/ < ", " < /", "/ <", "< /", "/a < ", " < /a", "a < b", "/a < b", "a < /b",
		// Other texts between the patterns.
		"/a</b", "/a< /b", "/a </b", "/a  < /b", "/a <  /b", "/a  <  /b", "/a << /b", "/a <= /b", "/a > /b", "/a - /b", "/a /b", "/a  /b", "/a\t<\t/b", "/a\n<\n/b", "/a\u00a0<\u00a0/b", "/a \uff1c /b", "/a &lt; /b", "/a ? /b", "/a/ < /b", "/a < < /b", "/a </ < /b",
		// Texts before, behind and within them.
		" /a < /b", "/a < /b ", "/a < /b\n", "\n/a < /b", "/a < /b\x00", "\ufeff/a < /b", "/a < /b < ", "/a < /b <", " < /a < /b", "/a < /b < /c", "/a < /a < /a", "/ < / < /", "/?x < /?x < /?x", "(/a < /b)", "/a < /b;", "/a < /b, /c < /d", "/a < /b\n/a < /b", "/ a < /b", "/a < / b", "/a /c < /b", "/a < /b /c",
		"/a/b/c/d/e/f/g < /a/b/c/d/e/f/g", strings.Repeat("/a", 1000) + " < /a", "/a < " + strings.Repeat("/a", 1000), strings.Repeat(" < ", 1000), strings.Repeat("/a < ", 1000) + "/a",
	})
	for _, s := range texts {
		if r, ok := impl.ParseRule(s); ok || r.DataPattern.Parts != nil || r.KeyPattern.Parts != nil {
			t.Errorf("ParseRule(%q) = %s, %v, want the zero Rule, false", s, ruleText(r), ok)
		}
		checkParseRule(t, s)
	}
}

func TestParseRuleOfAllShortTexts(t *testing.T) {
	for _, alphabet := range [][]string{{"/", "a", " ", "<", "*"}, {"/", "?x", "?y", " < ", "**"}} {
		for _, s := range sequences(alphabet, 7) {
			checkParseRule(t, strings.Join(s, ""))
		}
	}
}

func TestParseRuleOfEachByte(t *testing.T) {
	for _, s := range []string{"/ < /", "/a < /b", "/?x < /?x", "/?x/** < /?x/key", "/a/?b/*/?d < /?d/?b/**", "/a/b/c/d/e/f < /abcdefgh"} {
		for i := range 256 {
			for at := range len(s) {
				checkParseRule(t, string(with([]byte(s), at, byte(i))))
				checkParseRule(t, s[:at]+string([]byte{byte(i)})+s[at:])
			}
			checkParseRule(t, s+string([]byte{byte(i)}))
		}
		for at := range len(s) {
			checkParseRule(t, s[:at])
			checkParseRule(t, s[at:])
			checkParseRule(t, s[:at]+s[at+1:])
		}
	}
}

// A valid rule is parsed from its text; one that is not valid, only if a valid one has the same text.
func TestParseRuleOfFormatRule(t *testing.T) {
	all := slices.Concat(sequences([]string{"a", "x-1", "*", "?x", "?z", "**"}, 3), sequences([]string{"", "a/b", "/", " < ", "?x", "A"}, 2))
	for _, data := range all {
		for _, key := range all {
			s := impl.FormatRule(ruleOfParts(data, key))
			checkParseRule(t, s)
			if r, ok := impl.ParseRule(s); model10Valid(data, key) && (!ok || ruleText(r) != ruleText(ruleOfParts(data, key))) {
				t.Fatalf("ParseRule(%q) = %s, %v", s, ruleText(r), ok)
			}
		}
	}
}

func TestEqualRules(t *testing.T) {
	for _, data := range emptyPatterns {
		for _, key := range emptyPatterns {
			r := impl.Rule{DataPattern: data, KeyPattern: key}
			if !impl.EqualRules(r, impl.Rule{}) || !impl.EqualRules(impl.Rule{}, r) {
				t.Errorf("EqualRules of empty patterns = false")
			}
			if impl.EqualRules(r, ruleOf("/ < /a")) || impl.EqualRules(ruleOf("/a < /"), r) {
				t.Errorf("EqualRules of an empty pattern and another one = true")
			}
		}
	}
	// Rules that are not valid are equal, too, if their parts are; equal texts are not enough.
	all := rulesOf(slices.Concat(validRuleTexts, unboundRuleTexts, brokenRuleTexts)...)
	for _, parts := range [][]string{{""}, {"a/b"}, {"a", "b"}, {"ab"}, {"", "a", "b"}, {"a", "", "b"}, {"a", "b", ""}, {"a", "b", "c"}, {"?x", "b"}, {"a", "?x"}, {"*", "b"}, {"\xfe"}, {"\ufffd"}, slices.Repeat([]string{"a"}, 300), slices.Repeat([]string{"a"}, 301)} {
		all = append(all, ruleOfParts(parts, nil), ruleOfParts(nil, parts), ruleOfParts(parts, []string{"b"}), ruleOfParts([]string{"q"}, parts), ruleOfParts(parts, parts))
	}
	for i, a := range all {
		for j, b := range all {
			other := ruleOfParts(slices.Clone(b.DataPattern.Parts), slices.Clone(b.KeyPattern.Parts))
			want := ruleText(a) == ruleText(b)
			if got := impl.EqualRules(a, other); got != want || want != (i == j) {
				t.Errorf("EqualRules(%s, %s) = %v, at %d and %d", ruleText(a), ruleText(b), got, i, j)
			}
		}
	}
}

// Each part counts, in each of the patterns; and which of them is which.
func TestEqualRulesOfOneChange(t *testing.T) {
	for _, parts := range sequences([]string{"a", "?x", "**"}, 4) {
		r := ruleOfParts(parts, slices.Clone(parts))
		for at := range parts {
			for _, s := range []string{"b", "?y", "*", "", "A"} {
				other := slices.Clone(parts)
				other[at] = s
				shorter := slices.Delete(slices.Clone(parts), at, at+1)
				for _, changed := range [][]string{other, shorter, append(slices.Clone(parts), s)} {
					for _, q := range []impl.Rule{ruleOfParts(changed, parts), ruleOfParts(parts, changed), ruleOfParts(changed, changed)} {
						if impl.EqualRules(r, q) || impl.EqualRules(q, r) {
							t.Fatalf("EqualRules(%s, %s) = true", ruleText(r), ruleText(q))
						}
					}
					if impl.EqualRules(ruleOfParts(parts, changed), ruleOfParts(changed, parts)) {
						t.Fatalf("EqualRules of %q and %q exchanged = true", parts, changed)
					}
				}
			}
		}
	}
}

func guardRules(l []impl.Rule) guardedList[impl.Rule] {
	spare := rulesOf("/** < /**", "/a < /b", "/ < /", "/a < /?x", "/?x < /?x", "/A < /A")
	return guardList(l, spare, func(r *impl.Rule) []*[]string { return []*[]string{&r.DataPattern.Parts, &r.KeyPattern.Parts} }, rulesText)
}

// scribblePatterns changes all memory of the patterns of a rule.
func scribblePatterns(r impl.Rule) {
	scribbleParts(impl.Name(r.DataPattern))
	scribbleParts(impl.Name(r.KeyPattern))
}

func TestRulesAreLeftAsTheyAre(t *testing.T) {
	lists := [][]impl.Rule{
		{{}}, rulesOf("/?x/** < /?x/key"), rulesOf("/b/1 < /key/a", "/?x/** < /?x/key"), rulesOf("/a < /?x", "/**/a < /a", "/?x/?y < /?y/?x"), rulesOf("/A < /A", "/** < /**"), numberedRules(8), append(numberedRules(8), ruleOf("/?x/** < /?x/key")), append(numberedRules(20), ruleOf("/?x/?y < /**")),
	}
	for _, l := range lists {
		for _, n := range []impl.Name{{}, nameOf("a"), nameOf("a", "1"), nameOf("b", "1"), nameOf("A"), nameOf("n003")} {
			for _, k := range []impl.Name{{}, nameOf("a", "key"), nameOf("key", "a"), nameOf("1", "a"), nameOf("key", "n003"), nameOf("A")} {
				checkRulesAreLeft(t, l, n, k)
			}
		}
	}
}

func checkRulesAreLeft(t *testing.T, l []impl.Rule, n, k impl.Name) {
	t.Helper()
	g, other, name, key := guardRules(l), guardRules(l), guardWith(n.Parts, spareParts), guardWith(k.Parts, spareParts)
	n, k = impl.Name{Parts: name.slice}, impl.Name{Parts: key.slice}
	calls := []struct {
		what string
		call func()
	}{
		{"ValidRule", func() { impl.ValidRule(g.slice[0]) }},
		{"ValidRules", func() { impl.ValidRules(g.slice) }},
		{"RuleAllows", func() { impl.RuleAllows(g.slice[0], n, k) }},
		{"Allowed", func() { impl.Allowed(g.slice, n, k) }},
		{"FirstAllowingRule", func() { impl.FirstAllowingRule(g.slice, n, k) }},
		{"FormatRule", func() { impl.FormatRule(g.slice[0]) }},
		{"EqualRules", func() { impl.EqualRules(g.slice[0], other.slice[0]) }},
	}
	for _, c := range calls {
		c.call()
		g.check(t, c.what)
		other.check(t, c.what+", the second rule")
		name.check(t, c.what+", the name")
		key.check(t, c.what+", the key")
	}
}

func TestParsedRulesAreNewMemory(t *testing.T) {
	for _, s := range append(slices.Clone(validRuleTexts), "/a < /?x", "/a < /A", "") {
		first, _ := impl.ParseRule(s)
		second, _ := impl.ParseRule(s)
		want, wantKey := ruleText(second), slices.Clone(first.KeyPattern.Parts)
		scribbleParts(impl.Name(first.DataPattern))
		if !slices.Equal(first.KeyPattern.Parts, wantKey) {
			t.Errorf("ParseRule(%q): the patterns share memory", s)
		}
		scribblePatterns(first)
		if ruleText(second) != want {
			t.Errorf("ParseRule(%q): two results share memory", s)
		}
		if third, _ := impl.ParseRule(s); ruleText(third) != want {
			t.Errorf("ParseRule(%q) = %s after its result has been changed", s, ruleText(third))
		}
	}
}

// What lies behind the last rule, and behind the parts of a pattern or a name, counts for nothing.
func TestSpareRulesAreNotRead(t *testing.T) {
	r := impl.Rule{DataPattern: impl.Pattern{Parts: []string{"?x", "**", "B"}[:2]}, KeyPattern: impl.Pattern{Parts: []string{"?x", "key", "?y"}[:2]}}
	unbound := impl.Rule{DataPattern: impl.Pattern{Parts: []string{"a", "?x"}[:1]}, KeyPattern: impl.Pattern{Parts: []string{"?x", "?x"}[:1]}}
	n, key := impl.Name{Parts: []string{"a", "b", "C"}[:2]}, impl.Name{Parts: []string{"a", "key", "C"}[:2]}
	if !impl.ValidRule(r) || !impl.RuleAllows(r, n, key) || impl.FormatRule(r) != "/?x/** < /?x/key" || !impl.EqualRules(r, ruleOf("/?x/** < /?x/key")) {
		t.Errorf("ValidRule = %v, FormatRule = %q", impl.ValidRule(r), impl.FormatRule(r))
	}
	if impl.ValidRule(unbound) || impl.RuleAllows(unbound, nameOf("a"), nameOf("a")) {
		t.Error("a variable behind the DataPattern is bound")
	}
	l := []impl.Rule{unbound, r, ruleOf("/** < /**")}
	checkFirst(t, l[:2], n, key, 1)
	checkFirst(t, l[:1], n, key, -1)
	checkFirst(t, l[:2], n, nameOf("q"), -1)
	checkFirst(t, append(numberedRules(8), r)[:8], n, key, -1)
	if !impl.ValidRules(numberedRules(9)[:8]) || impl.ValidRules(l[:2]) || !impl.ValidRules(l[1:]) || !impl.ValidRules(l[:0]) {
		t.Error("ValidRules of a part of a list")
	}
}
