package tests

import (
	"math"
	"regexp"
	"slices"
	"strings"
	"testing"

	"loop.example/g00507/impl"
)

var (
	wantPart = regexp.MustCompile(`\A[a-z0-9-]{1,8}\z`)
	wantText = regexp.MustCompile(`\A(/|(/[a-z0-9-]{1,8}){1,6})\z`)
)

// nameOf makes a name, valid or not, of its parts; with none, its Parts are nil.
func nameOf(parts ...string) impl.Name {
	return impl.Name{Parts: parts}
}

var emptyNames = []impl.Name{{}, {Parts: []string{}}, {Parts: []string{"a", "b"}[:0]}}

// These names ascend strictly; those that are not valid are compared all the same.
var ascendingNames = []impl.Name{
	nameOf(),
	nameOf(""),
	nameOf("", ""),
	nameOf("", "a"),
	nameOf("\x00"),
	nameOf(" "),
	nameOf("-"),
	nameOf("-", "z"),
	nameOf("--"),
	nameOf("-0"),
	nameOf("-a"),
	nameOf("/"),
	nameOf("0"),
	nameOf("10"),
	nameOf("2"),
	nameOf("9"),
	nameOf("A"),
	nameOf("Z", "z"),
	nameOf("a"),
	nameOf("a", ""),
	// As a text, the name of "a" and "b" would be greater than that of "a-b".
	nameOf("a", "-"),
	nameOf("a", "0"),
	nameOf("a", "a"),
	nameOf("a", "a", "a", "a", "a"),
	nameOf("a", "a", "a", "a", "a", "a"),
	nameOf("a", "a", "a", "a", "a", "a", ""),
	nameOf("a", "a", "a", "a", "a", "a", "a"),
	nameOf("a", "a", "a", "a", "a", "a", "a", "a"),
	nameOf("a", "a", "a", "a", "a", "a", "b"),
	nameOf("a", "a", "a", "a", "a", "b"),
	nameOf("a", "aa"),
	nameOf("a", "b"),
	nameOf("a", "b", "c"),
	nameOf("a", "b", "d"),
	nameOf("a", "bc"),
	nameOf("a", "c"),
	nameOf("a-b"),
	nameOf("a/b"),
	nameOf("aa"),
	nameOf("aa", "a"),
	nameOf("aaaaaaaa"),
	nameOf("aaaaaaaaa"),
	nameOf("aaaaaaab"),
	nameOf("ab"),
	nameOf("abcdefgh", "a"),
	nameOf("abcdefgi"),
	nameOf("b"),
	nameOf("b", "a"),
	nameOf("ba"),
	nameOf("z"),
	nameOf("zz", "zz"),
	nameOf("\x80"),
	// The bytes of an invalid text are compared, not the runes that stand for them, which are all the same.
	nameOf("\xc3"),
	nameOf("\u00e9"),
	nameOf("\uff41"),
	nameOf("\U0001f600"),
	nameOf("\xff"),
}

func TestTheLimitsOfNamesAreThoseOfTheDocument(t *testing.T) {
	if impl.MaxParts != 6 || impl.MaxPartLength != 8 {
		t.Errorf("MaxParts = %d, MaxPartLength = %d", impl.MaxParts, impl.MaxPartLength)
	}
}

func TestValidPart(t *testing.T) {
	for _, s := range []string{
		"a", "z", "0", "9", "-", "x-1", "--", "news", "a0-", "-a", "007", "12345678", "eight888", "--------", "abcdefgh", "zzzzzzzz",
	} {
		if !impl.ValidPart(s) {
			t.Errorf("ValidPart(%q) = false", s)
		}
	}
	for _, s := range []string{
		"", "nine99999", "abcdefghi", "---------", strings.Repeat("a", 16), strings.Repeat("a", 256+8), strings.Repeat("a", 1000),
		"A", "Z", "aB", "Ba", "abcdefgH", "/", "a/b", "/a", "a/", ".", "a.b", " ", "a b", " a", "a ", "\t", "a\n", "\na", "a\r", "a\x00", "\x00",
		"_", "a_b", "?x", "*", "**", "+", ",", "`", "{", ":", "@", "[", "%61",
		// Runes of several bytes, among them letters and digits, and some that a cut to 8 or 16 bits makes valid.
		"\u00e9", "a\u00e9", "\u00e9a", "\u00df", "\u0430", "\u0661", "\uff41", "\uff11", "\u2010", "\u2212", "\u0161", "\u0130", "\u012d", "\U00010061", "\U0001f600",
		"\u00e9\u00e9\u00e9\u00e9", "aaaaaa\u00e9", "\u00e9\u00e9\u00e9\u00e9\u00e9\u00e9\u00e9\u00e9",
		// Bytes that are no valid text, among them long forms of "a".
		"\x80", "\xff", "a\x80", "\xe1", "\xad", "\xb9", "\xc1\xa1", "\xe0\x81\xa1", "\xc3", "a\xc3", "\xc3a", "\xed\xa0\x80", "\xf5\x80\x80\x80", "\ufffd", "\ufeffa",
	} {
		if impl.ValidPart(s) {
			t.Errorf("ValidPart(%q) = true", s)
		}
	}
}

func TestEachByteOfAPart(t *testing.T) {
	for i := range 256 {
		x := byte(i)
		valid := x == '-' || '0' <= x && x <= '9' || 'a' <= x && x <= 'z'
		for length := 1; length <= 10; length++ {
			for at := range length {
				s := string(with([]byte(strings.Repeat("a", length)), at, x))
				if got, want := impl.ValidPart(s), valid && length <= 8; got != want {
					t.Errorf("ValidPart(%q) = %v, want %v", s, got, want)
				}
			}
		}
	}
}

func TestEachRuneOfAPart(t *testing.T) {
	for r := rune(0); r < 0x30000; r++ {
		s := string(r)
		if got, want := impl.ValidPart(s), wantPart.MatchString(s); got != want {
			t.Errorf("ValidPart(%q) = %v, want %v", s, got, want)
		}
	}
}

func TestValidName(t *testing.T) {
	for _, n := range emptyNames {
		if !impl.ValidName(n) {
			t.Errorf("ValidName(%q) = false", n.Parts)
		}
	}
	all := []string{"a", "0", "-", "abcdefgh", "x-1", "zzzzzzzz", "b", "c"}
	for length := range len(all) + 1 {
		n := nameOf(all[:length]...)
		if got, want := impl.ValidName(n), length <= 6; got != want {
			t.Errorf("ValidName(%q) = %v, want %v", n.Parts, got, want)
		}
		for at := range length {
			for _, s := range []string{"", "A", "nine99999", "/", "a/b", "a.", " ", "\x80", "\u00e9"} {
				parts := slices.Clone(all[:length])
				parts[at] = s
				if impl.ValidName(nameOf(parts...)) {
					t.Errorf("ValidName(%q) = true", parts)
				}
			}
		}
	}
	if impl.ValidName(nameOf(make([]string, 7)...)) || impl.ValidName(nameOf(slices.Repeat([]string{"a"}, 262)...)) {
		t.Error("ValidName of too many parts = true")
	}
}

func TestFormatName(t *testing.T) {
	for _, n := range emptyNames {
		if got := impl.FormatName(n); got != "/" {
			t.Errorf("FormatName(%q) = %q, want \"/\"", n.Parts, got)
		}
	}
	cases := []struct {
		n    impl.Name
		want string
	}{
		{nameOf("a"), "/a"}, {nameOf("a", "news", "1"), "/a/news/1"}, {nameOf("-"), "/-"}, {nameOf("007", "x-1"), "/007/x-1"},
		{nameOf("a", "b", "c", "d", "e", "f"), "/a/b/c/d/e/f"}, {nameOf("abcdefgh", "ijklmnop"), "/abcdefgh/ijklmnop"},
		// Names that are not valid have a text, too.
		{nameOf(""), "/"}, {nameOf("", ""), "//"}, {nameOf("a", ""), "/a/"}, {nameOf("", "a"), "//a"}, {nameOf("a", "", "b"), "/a//b"},
		{nameOf("/"), "//"}, {nameOf("a/b"), "/a/b"}, {nameOf("/a"), "//a"}, {nameOf("A"), "/A"}, {nameOf("a b", "."), "/a b/."},
		{nameOf("\u00e9", "\x80\xff"), "/\u00e9/\x80\xff"}, {nameOf("nine99999"), "/nine99999"},
		{nameOf("a", "b", "c", "d", "e", "f", "g"), "/a/b/c/d/e/f/g"},
		{nameOf(slices.Repeat([]string{"ab"}, 300)...), strings.Repeat("/ab", 300)},
	}
	for _, c := range cases {
		if got := impl.FormatName(c.n); got != c.want {
			t.Errorf("FormatName(%q) = %q, want %q", c.n.Parts, got, c.want)
		}
	}
}

func TestParseName(t *testing.T) {
	cases := []struct {
		s    string
		want []string
	}{
		{"/", nil}, {"/a", []string{"a"}}, {"/-", []string{"-"}}, {"/0", []string{"0"}}, {"/a/b", []string{"a", "b"}},
		{"/a/news/1", []string{"a", "news", "1"}}, {"/a/a/a", []string{"a", "a", "a"}}, {"/abcdefgh", []string{"abcdefgh"}},
		{"/x-1/12345678/--------", []string{"x-1", "12345678", "--------"}},
		{"/a/b/c/d/e/f", []string{"a", "b", "c", "d", "e", "f"}},
		{"/abcdefgh/ijklmnop/qrstuvwx/yz012345/6789-abc/defghijk", []string{"abcdefgh", "ijklmnop", "qrstuvwx", "yz012345", "6789-abc", "defghijk"}},
	}
	for _, c := range cases {
		if n, ok := impl.ParseName(c.s); !slices.Equal(n.Parts, c.want) || !ok {
			t.Errorf("ParseName(%q) = %q, %v, want %q, true", c.s, n.Parts, ok, c.want)
		}
	}
}

func TestParseNameRejects(t *testing.T) {
	for _, s := range []string{
		// No leading slash.
		"", "a", "a/b", "a/", "news/1", " /a", "\x00/a", "\\a", "-", "0",
		// Slashes at the end and in a row, each with an empty part.
		"/a/", "/a/b/", "//", "///", "//a", "/a//b", "/a//", "/a/b//c", "/a/b/c/d/e/f/", "//////", "//a/b/c/d/e",
		// Too many parts, or too many bytes in one of them.
		"/a/b/c/d/e/f/g", "/a/b/c/d/e/f/g/h", "/nine99999", "/a/nine99999", "/nine99999/a", "/a/b/c/d/e/nine99999",
		strings.Repeat("/a", 262), "/" + strings.Repeat("a", 264), strings.Repeat("/", 10000),
		// Bytes that no part has.
		"/A", "/a/B", "/a.b", "/.", "/..", "/a b", "/ a", "/a ", "/a\n", "/a\x00", "\n/a", "/a/\t", "/a_b", "/*", "/**", "/?x", "/a?1", "/%61", "/a\\b",
		"/\u00e9", "/a/\u00e9", "/\u0161", "/\uff41", "/\U00010061", "/\u2215", "\u2215a", "\u2044a", "\uff0fa", "\u012fa", "/a\u012fb", "/a\u012f",
		"/\x80", "/a\xff", "/\xc1\xa1", "/\xc3/a", "/a/\xc3", "\xaf", "\xafa", "\xc0\xafa", "/a\xafb", "/a\xc0\xafb", "/\ufffd", "\ufeff/a", "\xff/a",
	} {
		if n, ok := impl.ParseName(s); n.Parts != nil || ok {
			t.Errorf("ParseName(%q) = %q, %v, want the zero Name, false", s, n.Parts, ok)
		}
	}
}

// checkParse holds what ParseName returns against a regular expression.
func checkParse(t *testing.T, s string) {
	t.Helper()
	n, ok := impl.ParseName(s)
	if want := wantText.MatchString(s); ok != want {
		t.Errorf("ParseName(%q) = %q, %v, want %v", s, n.Parts, ok, want)
	}
	if !ok {
		if n.Parts != nil {
			t.Errorf("ParseName(%q) = %q, false, want the zero Name", s, n.Parts)
		}
		return
	}
	if !impl.ValidName(n) || impl.FormatName(n) != s {
		t.Errorf("ParseName(%q) = %q, which is not valid or has another text", s, n.Parts)
	}
}

func TestParseNameOfAllShortTexts(t *testing.T) {
	texts := []string{""}
	for first, length := 0, 0; length < 6; length++ {
		last := len(texts)
		for _, s := range texts[first:last] {
			for _, c := range []string{"/", "a", "9", "-", "A", ".", "\xff", "\u00e9"} {
				texts = append(texts, s+c)
			}
		}
		first = last
	}
	for _, s := range texts {
		checkParse(t, s)
	}
}

func TestParseNameOfEachByte(t *testing.T) {
	for i := range 256 {
		for _, s := range []string{"a", "/a", "/ab/cd", "/a/b/c/d/e/f", "/abcdefgh/a"} {
			for at := range len(s) {
				checkParse(t, string(with([]byte(s), at, byte(i))))
				checkParse(t, s[:at]+string([]byte{byte(i)})+s[at:])
				checkParse(t, s[:at]+s[at+1:])
			}
			checkParse(t, s+string([]byte{byte(i)}))
		}
	}
}

func TestParseNameOfFormatName(t *testing.T) {
	parts := []string{"a", "b", "-", "0", "x-1", "abcdefgh", "", "A", "nine99999", "a/b", "/"}
	all := append(slices.Clone(ascendingNames), emptyNames...)
	for _, a := range parts {
		for _, b := range parts {
			all = append(all, nameOf(a, b), nameOf(a, b, a, b, a, b), nameOf(a, b, a, b, a, b, a))
			for _, c := range parts {
				all = append(all, nameOf(a, b, c))
			}
		}
	}
	for _, n := range all {
		s := impl.FormatName(n)
		checkParse(t, s)
		if parsed, ok := impl.ParseName(s); impl.ValidName(n) && (!ok || !slices.Equal(parsed.Parts, n.Parts)) {
			t.Errorf("ParseName(FormatName(%q)) = %q, %v", n.Parts, parsed.Parts, ok)
		}
	}
}

func TestCompareNames(t *testing.T) {
	for i, a := range ascendingNames {
		for j, b := range ascendingNames {
			want := 0
			if i < j {
				want = -1
			} else if i > j {
				want = 1
			}
			again := impl.Name{Parts: slices.Clone(b.Parts)}
			if got := impl.CompareNames(a, again); got != want {
				t.Errorf("CompareNames(%q, %q) = %d, want %d", a.Parts, b.Parts, got, want)
			}
			if got := impl.EqualNames(a, again); got != (want == 0) {
				t.Errorf("EqualNames(%q, %q) = %v", a.Parts, b.Parts, got)
			}
		}
	}
}

func TestTheEmptyNameIsTheLeast(t *testing.T) {
	for _, a := range emptyNames {
		for _, b := range emptyNames {
			if got := impl.CompareNames(a, b); got != 0 || !impl.EqualNames(a, b) {
				t.Errorf("the empty names %#v and %#v: CompareNames = %d", a.Parts, b.Parts, got)
			}
		}
		for _, n := range ascendingNames[1:] {
			if impl.CompareNames(a, n) != -1 || impl.CompareNames(n, a) != 1 || impl.EqualNames(a, n) || impl.EqualNames(n, a) {
				t.Errorf("the empty name is not less than %q", n.Parts)
			}
		}
	}
}

// Every byte decides as a number without a sign.
func TestCompareNamesOfEachByte(t *testing.T) {
	for i := range 256 {
		for j := range 256 {
			a, b := string([]byte{'m', byte(i)}), string([]byte{'m', byte(j)})
			want := 0
			if i < j {
				want = -1
			} else if i > j {
				want = 1
			}
			if got := impl.CompareNames(nameOf("a", a, "z"), nameOf("a", b, "z")); got != want {
				t.Errorf("CompareNames of %q and %q = %d, want %d", a, b, got, want)
			}
			if got := impl.EqualNames(nameOf("a", a, "z"), nameOf("a", b, "z")); got != (want == 0) {
				t.Errorf("EqualNames of %q and %q = %v", a, b, got)
			}
		}
	}
}

func TestHasPrefix(t *testing.T) {
	cases := []struct {
		a, p impl.Name
		want bool
	}{
		{nameOf("a", "news", "1"), nameOf("a", "news", "1"), true},
		{nameOf("a", "news", "1"), nameOf("a", "news"), true},
		{nameOf("a", "news", "1"), nameOf("a"), true},
		{nameOf("a", "news"), nameOf("a", "news", "1"), false},
		{nameOf("a"), nameOf("a", ""), false},
		// The text of p is the start of the text of a, but p is no prefix.
		{nameOf("a", "news", "1"), nameOf("a", "new"), false},
		{nameOf("ab"), nameOf("a"), false}, {nameOf("a"), nameOf("ab"), false},
		{nameOf("a", "b"), nameOf("a/b"), false}, {nameOf("a/b"), nameOf("a"), false}, {nameOf("a", "b"), nameOf(""), false},
		// The parts of p are in a, but not at its start.
		{nameOf("a", "b", "c"), nameOf("b"), false}, {nameOf("a", "b", "c"), nameOf("a", "c"), false}, {nameOf("a", "b", "c"), nameOf("b", "c"), false},
		{nameOf("a", "b"), nameOf("b", "a"), false}, {nameOf("a", "b", "c"), nameOf("x", "b"), false}, {nameOf("a", "b", "c"), nameOf("a", "x"), false},
		// Names that are not valid have prefixes as well.
		{nameOf("", "A"), nameOf(""), true}, {nameOf("A", "\xff"), nameOf("A"), true}, {nameOf("\xff"), nameOf("\xfe"), false},
		{nameOf("a", "b", "c", "d", "e", "f", "g", "h"), nameOf("a", "b", "c", "d", "e", "f", "g"), true},
		{nameOf("a", "b", "c", "d", "e", "f", "g", "h"), nameOf("a", "b", "c", "d", "e", "f", "x"), false},
	}
	for _, c := range cases {
		if got := impl.HasPrefix(c.a, c.p); got != c.want {
			t.Errorf("HasPrefix(%q, %q) = %v, want %v", c.a.Parts, c.p.Parts, got, c.want)
		}
	}
}

func TestEveryNameIsUnderItsFirstPartsOnly(t *testing.T) {
	for _, a := range ascendingNames {
		for _, p := range emptyNames {
			if !impl.HasPrefix(a, p) || impl.HasPrefix(p, a) != (len(a.Parts) == 0) {
				t.Errorf("HasPrefix of %q and the empty name", a.Parts)
			}
		}
		for _, p := range ascendingNames {
			want := len(p.Parts) <= len(a.Parts)
			for i := 0; want && i < len(p.Parts); i++ {
				want = p.Parts[i] == a.Parts[i]
			}
			if got := impl.HasPrefix(a, p); got != want {
				t.Errorf("HasPrefix(%q, %q) = %v, want %v", a.Parts, p.Parts, got, want)
			}
			if want && impl.CompareNames(p, a) > 0 {
				t.Errorf("CompareNames: %q is greater than %q, which is under it", p.Parts, a.Parts)
			}
		}
	}
}

func TestTruncate(t *testing.T) {
	all := append(slices.Clone(ascendingNames), emptyNames...)
	for _, n := range all {
		length := len(n.Parts)
		for k := range length + 1 {
			got := impl.Truncate(n, k)
			if !slices.Equal(got.Parts, n.Parts[:k]) || !impl.HasPrefix(n, got) {
				t.Errorf("Truncate(%q, %d) = %q, want %q", n.Parts, k, got.Parts, n.Parts[:k])
			}
		}
		for _, k := range []int{length, length + 1, length + 2, 6, 7, 100, impl.MaxInt, 1 << 32, math.MaxInt - 1, math.MaxInt} {
			if got := impl.Truncate(n, k); k >= length && !slices.Equal(got.Parts, n.Parts) {
				t.Errorf("Truncate(%q, %d) = %q, want all parts", n.Parts, k, got.Parts)
			}
		}
		for _, k := range []int{0, -1, -2, -length, -length - 1, -7, -1 << 32, math.MinInt, math.MinInt + 1} {
			if got := impl.Truncate(n, k); len(got.Parts) != 0 {
				t.Errorf("Truncate(%q, %d) = %q, want no parts", n.Parts, k, got.Parts)
			}
		}
	}
}

func TestAppendPart(t *testing.T) {
	parts := []string{"a", "b", "c-1", "abcdefgh", "0", "-"}
	for length := range len(parts) {
		for _, s := range []string{"x", "0", "-", "a", "x-1", "12345678"} {
			got, ok := impl.AppendPart(nameOf(parts[:length]...), s)
			want := append(slices.Clone(parts[:length]), s)
			if !slices.Equal(got.Parts, want) || !ok {
				t.Errorf("AppendPart(%q, %q) = %q, %v, want %q, true", parts[:length], s, got.Parts, ok, want)
			}
		}
	}
	for _, n := range emptyNames {
		if got, ok := impl.AppendPart(n, "x"); !slices.Equal(got.Parts, []string{"x"}) || !ok {
			t.Errorf("AppendPart(%#v, \"x\") = %q, %v", n.Parts, got.Parts, ok)
		}
	}
}

// The name that is returned with false is the argument, whether it is valid or not.
func TestAppendPartRejects(t *testing.T) {
	cases := []struct {
		n impl.Name
		s string
	}{
		{nameOf(), ""}, {nameOf(), "A"}, {nameOf(), "nine99999"}, {nameOf(), "/"}, {nameOf(), "/a"}, {nameOf(), "a/b"},
		{nameOf("a"), ""}, {nameOf("a"), "."}, {nameOf("a"), "b c"}, {nameOf("a"), "\x80"}, {nameOf("a"), "\u00e9"}, {nameOf("a"), "\u0161"}, {nameOf("a"), "b/"},
		// A seventh part, and an eighth.
		{nameOf("a", "b", "c", "d", "e", "f"), "g"}, {nameOf("a", "b", "c", "d", "e", "f"), ""}, {nameOf("a", "b", "c", "d", "e", "f", "g"), "h"},
		{nameOf("a", "b", "c", "d", "e"), "F"},
		// A name that is not valid already.
		{nameOf(""), "a"}, {nameOf("A"), "a"}, {nameOf("a", ""), "b"}, {nameOf("", "a"), "b"}, {nameOf("nine99999"), "a"}, {nameOf("a/b"), "c"}, {nameOf("\xff"), "a"}, {nameOf("A"), "B"},
		{nameOf(make([]string, 8)...), "a"},
	}
	for _, c := range cases {
		want := slices.Clone(c.n.Parts)
		if got, ok := impl.AppendPart(c.n, c.s); !slices.Equal(got.Parts, want) || ok {
			t.Errorf("AppendPart(%q, %q) = %q, %v, want %q, false", c.n.Parts, c.s, got.Parts, ok, want)
		}
	}
}

func TestAppendPartUndoesTruncate(t *testing.T) {
	for _, n := range ascendingNames {
		if !impl.ValidName(n) || len(n.Parts) == 0 {
			continue
		}
		last := len(n.Parts) - 1
		got, ok := impl.AppendPart(impl.Truncate(n, last), n.Parts[last])
		if !ok || !impl.EqualNames(got, n) {
			t.Errorf("AppendPart of the last part of %q to the others = %q, %v", n.Parts, got.Parts, ok)
		}
	}
}

var spareParts = []string{"b", "c", "d", "e", "f", "g", "h", "i", "j"}

// What lies behind the parts of a name counts for nothing.
func TestSparePartsAreNotRead(t *testing.T) {
	n := impl.Name{Parts: []string{"a", "b", "C"}[:1]}
	if !impl.ValidName(n) || impl.FormatName(n) != "/a" {
		t.Errorf("ValidName or FormatName = %q", impl.FormatName(n))
	}
	if !impl.EqualNames(n, nameOf("a")) || impl.EqualNames(n, nameOf("a", "b")) || impl.CompareNames(n, nameOf("a")) != 0 || impl.CompareNames(n, nameOf("a", "b")) != -1 {
		t.Error("EqualNames or CompareNames")
	}
	if impl.HasPrefix(n, nameOf("a", "b")) || !impl.HasPrefix(nameOf("a"), n) || !impl.HasPrefix(nameOf("a", "x"), n) {
		t.Error("HasPrefix")
	}
	for _, k := range []int{1, 2, 3, 4} {
		if got := impl.Truncate(n, k); !slices.Equal(got.Parts, []string{"a"}) {
			t.Errorf("Truncate to %d = %q", k, got.Parts)
		}
	}
}

func TestNamesAreLeftAsTheyAre(t *testing.T) {
	for _, n := range ascendingNames {
		a, b := guardWith(n.Parts, spareParts), guardWith(n.Parts, spareParts)
		first, second := impl.Name{Parts: a.slice}, impl.Name{Parts: b.slice}
		impl.ValidName(first)
		a.check(t, "ValidName")
		impl.FormatName(first)
		a.check(t, "FormatName")
		impl.CompareNames(first, second)
		impl.EqualNames(first, second)
		impl.HasPrefix(first, second)
		a.check(t, "CompareNames, EqualNames or HasPrefix, first argument")
		b.check(t, "CompareNames, EqualNames or HasPrefix, second argument")
	}
}

// checkNewParts changes one of two results of f, which must show neither in the argument nor in the other result.
func checkNewParts(t *testing.T, what string, n impl.Name, f func(impl.Name) impl.Name) {
	t.Helper()
	g := guardWith(n.Parts, spareParts)
	first, second := f(impl.Name{Parts: g.slice}), f(impl.Name{Parts: g.slice})
	g.check(t, what)
	want := slices.Clone(second.Parts)
	whole := first.Parts[:cap(first.Parts)]
	for i := range whole {
		whole[i] = "changed"
	}
	g.check(t, what+", its result changed")
	if !slices.Equal(second.Parts, want) {
		t.Errorf("%s of %q: two results share memory", what, n.Parts)
	}
}

func TestNamesAreNewMemory(t *testing.T) {
	for _, n := range append(slices.Clone(ascendingNames), emptyNames...) {
		for _, k := range []int{-1, 0, 1, 2, 6, 7, 100, math.MaxInt} {
			checkNewParts(t, "Truncate", n, func(m impl.Name) impl.Name {
				return impl.Truncate(m, k)
			})
		}
		for _, s := range []string{"x", "", "A"} {
			checkNewParts(t, "AppendPart", n, func(m impl.Name) impl.Name {
				longer, _ := impl.AppendPart(m, s)
				return longer
			})
		}
		s := impl.FormatName(n)
		checkNewParts(t, "ParseName", n, func(impl.Name) impl.Name {
			parsed, _ := impl.ParseName(s)
			return parsed
		})
	}
}
