package tests

import (
	"fmt"
	"math"
	"slices"
	"strings"
	"testing"

	"loop.example/g00507/impl"
)

// named makes a name, valid or not, of its text.
func named(s string) impl.Name {
	if s == "/" {
		return impl.Name{}
	}
	return nameOf(strings.Split(s, "/")[1:]...)
}

// tableOf makes a table, valid or not, of the texts of its names, with the values 1, 2 and so on.
func tableOf(texts ...string) []impl.TableEntry {
	l := []impl.TableEntry{}
	for i, s := range texts {
		l = append(l, impl.TableEntry{Name: named(s), Value: i + 1})
	}
	return l
}

// tableText is the same for equal tables only.
func tableText(l []impl.TableEntry) string {
	text := ""
	for _, e := range l {
		text += fmt.Sprintf("%q=%d ", e.Name.Parts, e.Value)
	}
	return text
}

// numbered makes a valid table of the names /n1, /n3, /n5 and so on; those with even numbers belong between them.
func numbered(length int) []impl.TableEntry {
	l := []impl.TableEntry{}
	for i := range length {
		l = append(l, impl.TableEntry{Name: numberedName(2*i + 1), Value: 100 + i})
	}
	return l
}

func numberedName(i int) impl.Name {
	return nameOf(fmt.Sprintf("n%03d", i))
}

var (
	emptyTables = [][]impl.TableEntry{nil, {}, tableOf("/a", "/b")[:0]}

	// These names ascend; each is shorter than some that it is a prefix of, or than some that only start with the same text.
	tableNames = []string{"/", "/a", "/a/b", "/a/b/c", "/a-b", "/ab", "/b"}

	notNames = []impl.Name{
		nameOf(""), nameOf("A"), nameOf("a", ""), nameOf("", "a"), nameOf("a/b"), nameOf("*"), nameOf("?x"), nameOf("nine99999"), nameOf("\xff"), nameOf("a", "\u00e9"),
		nameOf("a", "b", "c", "d", "e", "f", "g"), nameOf(make([]string, 7)...),
	}
)

// shortTables are all tables of up to four of the names, ascending or not, with equal names or without.
func shortTables() [][]impl.TableEntry {
	tables := [][]impl.TableEntry{}
	for _, texts := range sequences(tableNames, 4) {
		tables = append(tables, tableOf(texts...))
	}
	return tables
}

// ascends decides by the positions in tableNames, not by comparing names.
func ascends(l []impl.TableEntry) bool {
	last := -1
	for _, e := range l {
		at := slices.Index(tableNames, impl.FormatName(e.Name))
		if at <= last {
			return false
		}
		last = at
	}
	return true
}

func TestTheLimitOfTablesIsThatOfTheDocument(t *testing.T) {
	if impl.MaxEntries != 20 {
		t.Errorf("MaxEntries = %d", impl.MaxEntries)
	}
}

func TestValidTable(t *testing.T) {
	for _, l := range emptyTables {
		if !impl.ValidTable(l) {
			t.Errorf("ValidTable(%v) = false", l)
		}
	}
	for _, texts := range [][]string{
		{"/"}, {"/a"}, {"/", "/a"}, {"/a", "/b"}, {"/a", "/a/b"}, {"/a/z", "/b"}, {"/10", "/9"}, {"/a/b", "/a-b"}, {"/-", "/0", "/a"}, {"/a/b/c/d/e", "/a/b/c/d/e/f"},
		{"/abcdefgh", "/abcdefgh/1"}, tableNames,
	} {
		if !impl.ValidTable(tableOf(texts...)) {
			t.Errorf("ValidTable of %q = false", texts)
		}
	}
	for _, texts := range [][]string{
		// Equal names.
		{"/", "/"}, {"/a", "/a"}, {"/a", "/b", "/b"}, {"/a", "/b", "/a"}, {"/a", "/a", "/b"}, {"/a/b", "/a/b"},
		// Names that descend somewhere.
		{"/a", "/"}, {"/b", "/a"}, {"/a/b", "/a"}, {"/9", "/10"}, {"/a-b", "/a/b"}, {"/a", "/c", "/b"}, {"/b", "/a", "/c"}, {"/a", "/b", "/c", "/"},
	} {
		if impl.ValidTable(tableOf(texts...)) {
			t.Errorf("ValidTable of %q = true", texts)
		}
	}
}

func TestValidTableOfAllShortTables(t *testing.T) {
	for _, l := range shortTables() {
		if got, want := impl.ValidTable(l), ascends(l); got != want {
			t.Fatalf("ValidTable of %s= %v, want %v", tableText(l), got, want)
		}
	}
}

func TestValidTableOfAnyValues(t *testing.T) {
	for _, v := range anyIntegers {
		for _, w := range anyIntegers {
			if !impl.ValidTable([]impl.TableEntry{{Name: named("/a"), Value: v}, {Name: named("/b"), Value: w}}) {
				t.Errorf("ValidTable with the values %d and %d = false", v, w)
			}
		}
	}
}

func TestValidTableOfEachLength(t *testing.T) {
	for length := range 50 {
		if got, want := impl.ValidTable(numbered(length)), length <= 20; got != want {
			t.Errorf("ValidTable of %d entries = %v", length, got)
		}
	}
	if impl.ValidTable(numbered(256+20)) || impl.ValidTable(make([]impl.TableEntry, 21)) {
		t.Error("ValidTable of many entries = true")
	}
}

// One entry that does not fit makes a table invalid, wherever it is.
func TestValidTableOfEachEntry(t *testing.T) {
	for length := 1; length <= 20; length++ {
		for at := range length {
			for _, n := range notNames {
				l := numbered(length)
				l[at].Name = n
				if impl.ValidTable(l) {
					t.Errorf("ValidTable of %d entries with %q at %d = true", length, n.Parts, at)
				}
			}
			if at == 0 {
				continue
			}
			for _, n := range []impl.Name{{}, numberedName(0), numberedName(2*at - 1), numberedName(2*at - 2)} {
				l := numbered(length)
				l[at].Name = n
				if impl.ValidTable(l) {
					t.Errorf("ValidTable of %d entries with %q at %d = true", length, n.Parts, at)
				}
			}
		}
	}
}

// Names that are not valid are in the order of CompareNames, too, but make a table invalid.
func TestValidTableOfInvalidNames(t *testing.T) {
	for i, a := range ascendingNames {
		if got, want := impl.ValidTable([]impl.TableEntry{{Name: a}}), impl.ValidName(a); got != want {
			t.Errorf("ValidTable of %q = %v", a.Parts, got)
		}
		for j, b := range ascendingNames {
			want := i < j && impl.ValidName(a) && impl.ValidName(b)
			if got := impl.ValidTable([]impl.TableEntry{{Name: a}, {Name: b}}); got != want {
				t.Errorf("ValidTable of %q and %q = %v, want %v", a.Parts, b.Parts, got, want)
			}
		}
	}
}

func checkPut(t *testing.T, l []impl.TableEntry, n impl.Name, v int, want []impl.TableEntry, wantOK bool) {
	t.Helper()
	before := tableText(l)
	if got, ok := impl.PutEntry(l, n, v); tableText(got) != tableText(want) || ok != wantOK {
		t.Errorf("PutEntry(%s, %q, %d) = %s, %v, want %s, %v", before, n.Parts, v, tableText(got), ok, tableText(want), wantOK)
	}
	if after := tableText(l); after != before {
		t.Errorf("PutEntry(%s, %q, %d) changes its argument to %s", before, n.Parts, v, after)
	}
}

func TestPutEntry(t *testing.T) {
	cases := []struct {
		l    []string
		n    string
		want []string
		at   int
	}{
		// Names that are not present: before the first, between two, behind the last.
		{nil, "/", []string{"/"}, 0},
		{nil, "/a", []string{"/a"}, 0},
		{[]string{"/b"}, "/a", []string{"/a", "/b"}, 0},
		{[]string{"/b"}, "/c", []string{"/b", "/c"}, 1},
		{[]string{"/a", "/c"}, "/b", []string{"/a", "/b", "/c"}, 1},
		{[]string{"/a", "/b"}, "/", []string{"/", "/a", "/b"}, 0},
		{[]string{"/"}, "/a", []string{"/", "/a"}, 1},
		// A prefix of a present name, and a name under a present one.
		{[]string{"/a/b"}, "/a", []string{"/a", "/a/b"}, 0},
		{[]string{"/a"}, "/a/b", []string{"/a", "/a/b"}, 1},
		{[]string{"/a", "/b"}, "/a/z/z", []string{"/a", "/a/z/z", "/b"}, 1},
		{[]string{"/a", "/a/c"}, "/a/b/z", []string{"/a", "/a/b/z", "/a/c"}, 1},
		// The order is that of the parts, not that of the texts or of the numbers.
		{[]string{"/a-b"}, "/a/b", []string{"/a/b", "/a-b"}, 0},
		{[]string{"/9"}, "/10", []string{"/10", "/9"}, 0},
		{[]string{"/a/b/c/d/e"}, "/a/b/c/d/e/f", []string{"/a/b/c/d/e", "/a/b/c/d/e/f"}, 1},
	}
	for _, c := range cases {
		want := []impl.TableEntry{}
		for i, e := range tableOf(c.l...) {
			if i == c.at {
				want = append(want, impl.TableEntry{Name: named(c.n), Value: -7})
			}
			want = append(want, e)
		}
		if c.at == len(c.l) {
			want = append(want, impl.TableEntry{Name: named(c.n), Value: -7})
		}
		for i, e := range want {
			if impl.FormatName(e.Name) != c.want[i] {
				t.Fatalf("the case %q, %q is wrong", c.l, c.n)
			}
		}
		checkPut(t, tableOf(c.l...), named(c.n), -7, want, true)
	}
	for _, none := range emptyTables {
		for _, n := range append(slices.Clone(emptyNames), nameOf("a"), nameOf("a", "b", "c", "d", "e", "f"), nameOf("abcdefgh")) {
			checkPut(t, none, n, 5, []impl.TableEntry{{Name: n, Value: 5}}, true)
		}
	}
}

// A name that is present already gets the new value, and no second entry.
func TestPutEntryOfAPresentName(t *testing.T) {
	for length := 1; length <= 20; length++ {
		for at := range length {
			want := numbered(length)
			want[at].Value = 7
			checkPut(t, numbered(length), numberedName(2*at+1), 7, want, true)
			checkPut(t, numbered(length), numberedName(2*at+1), 100+at, numbered(length), true)
		}
	}
	for _, none := range emptyNames {
		for _, n := range emptyNames {
			l := []impl.TableEntry{{Name: none, Value: 3}, {Name: named("/a"), Value: 4}}
			checkPut(t, l, n, 0, []impl.TableEntry{{Value: 0}, {Name: named("/a"), Value: 4}}, true)
		}
	}
}

func TestPutEntryAtEachPosition(t *testing.T) {
	for length := range 20 {
		for at := range length + 1 {
			want := slices.Insert(numbered(length), at, impl.TableEntry{Name: numberedName(2 * at), Value: 7})
			checkPut(t, numbered(length), numberedName(2*at), 7, want, true)
		}
	}
}

func TestPutEntryInAFullTable(t *testing.T) {
	for at := range 21 {
		checkPut(t, numbered(20), numberedName(2*at), 7, numbered(20), false)
	}
	checkPut(t, numbered(20), impl.Name{}, 7, numbered(20), false)
	checkPut(t, numbered(20), named("/z"), 7, numbered(20), false)
	// A table that is too long already stays as it is, also if the name is present.
	for _, length := range []int{21, 22, 40, 256 + 19} {
		checkPut(t, numbered(length), numberedName(1), 7, numbered(length), false)
		checkPut(t, numbered(length), numberedName(2), 7, numbered(length), false)
		checkPut(t, numbered(length), impl.Name{}, 7, numbered(length), false)
	}
}

func TestPutEntryOfAnyValue(t *testing.T) {
	for _, v := range anyIntegers {
		checkPut(t, tableOf("/a"), named("/a"), v, []impl.TableEntry{{Name: named("/a"), Value: v}}, true)
		checkPut(t, nil, named("/a"), v, []impl.TableEntry{{Name: named("/a"), Value: v}}, true)
	}
}

func TestPutEntryOfAnInvalidName(t *testing.T) {
	for _, n := range notNames {
		for _, l := range append(slices.Clone(emptyTables), tableOf("/"), tableOf("/a"), tableOf("/a", "/b"), numbered(19), numbered(20)) {
			checkPut(t, l, n, 7, l, false)
		}
		// The name may be present, but the table is not valid then.
		l := []impl.TableEntry{{Name: n, Value: 3}}
		checkPut(t, l, n, 7, l, false)
		checkPut(t, l, named("/a"), 7, l, false)
		checkPut(t, l, impl.Name{}, 7, l, false)
		checkPut(t, l, named("/zz"), 7, l, false)
	}
}

// No entry that is put makes a valid table of one that is not.
func TestPutEntryInAllShortTables(t *testing.T) {
	for _, l := range shortTables() {
		for _, s := range append(slices.Clone(tableNames), "/0", "/a/a", "/a/b/b", "/b/a") {
			n := named(s)
			if !ascends(l) {
				checkPut(t, l, n, 7, l, false)
				continue
			}
			at := 0
			for at < len(l) && impl.CompareNames(l[at].Name, n) < 0 {
				at++
			}
			want := slices.Clone(l)
			if at < len(l) && impl.EqualNames(l[at].Name, n) {
				want[at].Value = 7
			} else {
				want = slices.Insert(want, at, impl.TableEntry{Name: n, Value: 7})
			}
			checkPut(t, l, n, 7, want, true)
		}
		if t.Failed() {
			return
		}
	}
}

// checkFound holds the four functions that search a table against a plain walk through it.
func checkFound(t *testing.T, l []impl.TableEntry, n impl.Name) {
	t.Helper()
	value, found, longest, others, under := 0, false, -1, []impl.TableEntry{}, []impl.TableEntry{}
	for i, e := range l {
		if slices.Equal(e.Name.Parts, n.Parts) {
			if !found {
				value, found = e.Value, true
			}
		} else {
			others = append(others, e)
		}
		if isPrefixOf(e.Name.Parts, n.Parts) && (longest < 0 || len(e.Name.Parts) > len(l[longest].Name.Parts)) {
			longest = i
		}
		if isPrefixOf(n.Parts, e.Name.Parts) {
			under = append(under, e)
		}
	}
	what := fmt.Sprintf("(%s, %q)", tableText(l), n.Parts)
	if got, ok := impl.LookupEntry(l, n); got != value || ok != found {
		t.Errorf("LookupEntry%s = %d, %v, want %d, %v", what, got, ok, value, found)
	}
	if got := impl.LongestPrefix(l, n); got != longest {
		t.Errorf("LongestPrefix%s = %d, want %d", what, got, longest)
	}
	if got := impl.RemoveEntry(l, n); tableText(got) != tableText(others) {
		t.Errorf("RemoveEntry%s = %s, want %s", what, tableText(got), tableText(others))
	}
	if got := impl.EntriesUnder(l, n); tableText(got) != tableText(under) {
		t.Errorf("EntriesUnder%s = %s, want %s", what, tableText(got), tableText(under))
	}
}

func isPrefixOf(p []string, parts []string) bool {
	for i, s := range p {
		if i >= len(parts) || parts[i] != s {
			return false
		}
	}
	return true
}

func TestSearchOfAllShortTables(t *testing.T) {
	for _, l := range shortTables() {
		for _, s := range append(slices.Clone(tableNames), "/0", "/a/a", "/a/b/c/d", "/a/bc", "/b/a", "/c") {
			checkFound(t, l, named(s))
		}
		if t.Failed() {
			return
		}
	}
}

// Tables that are too long, and names that are not valid, are searched like the others.
func TestSearchOfInvalidTables(t *testing.T) {
	for i, a := range ascendingNames {
		for j, b := range ascendingNames {
			l := []impl.TableEntry{{Name: a, Value: 5}, {Name: b, Value: 6}, {Name: a, Value: 7}}
			checkFound(t, l, a)
			checkFound(t, l, b)
			checkFound(t, l, ascendingNames[(i+j)%len(ascendingNames)])
			checkFound(t, l, impl.Name{})
		}
	}
	for _, length := range []int{19, 20, 21, 40, 300} {
		for i := range 2*length + 2 {
			checkFound(t, numbered(length), numberedName(i))
		}
		checkFound(t, numbered(length), impl.Name{})
		checkFound(t, make([]impl.TableEntry, length), impl.Name{})
		checkFound(t, make([]impl.TableEntry, length), nameOf("a"))
	}
}

func TestLookupEntry(t *testing.T) {
	l := tableOf("/", "/a", "/a/b", "/a/b/c", "/b", "/a", "/", "/A", "/A")
	cases := []struct {
		n    string
		want int
	}{
		{"/", 1}, {"/a", 2}, {"/a/b", 3}, {"/a/b/c", 4}, {"/b", 5}, {"/A", 8},
	}
	for _, c := range cases {
		if v, ok := impl.LookupEntry(l, named(c.n)); v != c.want || !ok {
			t.Errorf("LookupEntry(%q) = %d, %v, want %d, true", c.n, v, ok, c.want)
		}
	}
	for _, s := range []string{"/c", "/a/c", "/b/a", "/a/b/c/d", "/ab", "/a/", "//", "//a", "/B", "/a/bc", "/b/c"} {
		if v, ok := impl.LookupEntry(l, named(s)); v != 0 || ok {
			t.Errorf("LookupEntry(%q) = %d, %v, want 0, false", s, v, ok)
		}
	}
	// A value of 0 is one, too.
	for _, v := range anyIntegers {
		if got, ok := impl.LookupEntry([]impl.TableEntry{{Name: named("/b"), Value: 1}, {Name: named("/a"), Value: v}}, named("/a")); got != v || !ok {
			t.Errorf("LookupEntry of the value %d = %d, %v", v, got, ok)
		}
	}
}

func TestLongestPrefix(t *testing.T) {
	cases := []struct {
		l    []string
		n    string
		want int
	}{
		{nil, "/", -1}, {nil, "/a", -1},
		{[]string{"/"}, "/", 0}, {[]string{"/"}, "/a/b", 0}, {[]string{"/a"}, "/", -1}, {[]string{"/a"}, "/a", 0}, {[]string{"/a"}, "/b", -1},
		{[]string{"/", "/a", "/a/b"}, "/a/b/c", 2}, {[]string{"/", "/a", "/a/b"}, "/a/b", 2}, {[]string{"/", "/a", "/a/b"}, "/a/c", 1}, {[]string{"/", "/a", "/a/b"}, "/c", 0}, {[]string{"/", "/a", "/a/b"}, "/", 0},
		// A longer name is no prefix, nor is one whose text is the start of the other text.
		{[]string{"/a/b"}, "/a", -1}, {[]string{"/a/b/c"}, "/a/b", -1}, {[]string{"/a", "/ab"}, "/abc", -1}, {[]string{"/a", "/ab"}, "/ab/c", 1}, {[]string{"/a", "/a/b"}, "/a/bc", 0}, {[]string{"/a", "/a-b"}, "/a-b/c", 1},
		// The number of parts decides, not the number of bytes, nor the position.
		{[]string{"/a", "/a/b", "/abcdefgh"}, "/a/b/c", 1}, {[]string{"/abcdefgh", "/abcdefgh/a"}, "/abcdefgh/a/b", 1},
		{[]string{"/a/b", "/a", "/"}, "/a/b/c", 0}, {[]string{"/a", "/a/b/c", "/a/b"}, "/a/b/c/d", 1}, {[]string{"/", "/a", "/a/b", "/a/b/c"}, "/a/b", 2},
		// The first one of several.
		{[]string{"/a", "/a"}, "/a/b", 0}, {[]string{"/", "/a", "/a", "/"}, "/a", 1}, {[]string{"/", "/", "/"}, "/a", 0}, {[]string{"/b", "/a", "/a/b", "/a/b", "/a"}, "/a/b", 2},
		{[]string{"/a", "/a/b", "/a/b/c", "/a/b/c/d", "/a/b/c/d/e", "/a/b/c/d/e/f"}, "/a/b/c/d/e/f", 5},
		// Names that are not valid have prefixes, too.
		{[]string{"/A", "/A/"}, "/A//b", 1}, {[]string{"/a/b/c/d/e/f", "/a/b/c/d/e/f/g"}, "/a/b/c/d/e/f/g/h", 1}, {[]string{"/a", "/A"}, "/A", 1},
	}
	for _, c := range cases {
		if got := impl.LongestPrefix(tableOf(c.l...), named(c.n)); got != c.want {
			t.Errorf("LongestPrefix(%q, %q) = %d, want %d", c.l, c.n, got, c.want)
		}
	}
	for _, l := range emptyTables {
		for _, n := range append(slices.Clone(ascendingNames), emptyNames...) {
			if got := impl.LongestPrefix(l, n); got != -1 {
				t.Errorf("LongestPrefix of no entries, %q = %d", n.Parts, got)
			}
		}
	}
}

func TestRemoveEntry(t *testing.T) {
	cases := []struct {
		l    []string
		n    string
		want []int
	}{
		{nil, "/", nil}, {nil, "/a", nil}, {[]string{"/"}, "/", nil}, {[]string{"/"}, "/a", []int{1}}, {[]string{"/a"}, "/", []int{1}},
		{[]string{"/a", "/b", "/c"}, "/a", []int{2, 3}}, {[]string{"/a", "/b", "/c"}, "/b", []int{1, 3}}, {[]string{"/a", "/b", "/c"}, "/c", []int{1, 2}}, {[]string{"/a", "/b", "/c"}, "/d", []int{1, 2, 3}},
		// Neither a prefix of the name nor a name under it is removed.
		{[]string{"/", "/a", "/a/b", "/a/b/c"}, "/a/b", []int{1, 2, 4}}, {[]string{"/a/b"}, "/a", []int{1}}, {[]string{"/a", "/ab"}, "/a", []int{2}},
		// All entries with the name are removed, in any order; the others keep theirs.
		{[]string{"/a", "/a"}, "/a", nil}, {[]string{"/b", "/a", "/c", "/a", "/a", "/b"}, "/a", []int{1, 3, 6}}, {[]string{"/", "/A", "/", "/A"}, "/A", []int{1, 3}}, {[]string{"/c", "/b", "/a"}, "/b", []int{1, 3}},
	}
	for _, c := range cases {
		got := impl.RemoveEntry(tableOf(c.l...), named(c.n))
		values := []int{}
		for _, e := range got {
			values = append(values, e.Value)
		}
		if !slices.Equal(values, c.want) {
			t.Errorf("RemoveEntry(%q, %q) = %s, want the entries %v", c.l, c.n, tableText(got), c.want)
		}
	}
}

func TestEntriesUnder(t *testing.T) {
	l := tableOf("/", "/a", "/a/b", "/a/b/c", "/a-b", "/ab", "/b", "/a", "/A/a", "/a/")
	cases := []struct {
		p    string
		want []int
	}{
		{"/", []int{1, 2, 3, 4, 5, 6, 7, 8, 9, 10}}, {"/a", []int{2, 3, 4, 8, 10}}, {"/a/b", []int{3, 4}}, {"/a/b/c", []int{4}}, {"/b", []int{7}}, {"/ab", []int{6}}, {"/A", []int{9}}, {"/a/", []int{10}},
		{"/c", nil}, {"/a/c", nil}, {"/a/b/c/d", nil}, {"/b/a", nil}, {"//", nil}, {"/a/b/c/d/e/f/g", nil},
	}
	for _, c := range cases {
		got := impl.EntriesUnder(l, named(c.p))
		values := []int{}
		for _, e := range got {
			values = append(values, e.Value)
		}
		if !slices.Equal(values, c.want) {
			t.Errorf("EntriesUnder(%q) = %s, want the entries %v", c.p, tableText(got), c.want)
		}
	}
	for _, none := range emptyTables {
		for _, p := range append(slices.Clone(emptyNames), nameOf("a"), nameOf("A")) {
			if got := impl.EntriesUnder(none, p); len(got) != 0 {
				t.Errorf("EntriesUnder of no entries = %s", tableText(got))
			}
		}
	}
}

func TestEqualTables(t *testing.T) {
	for _, a := range emptyTables {
		for _, b := range emptyTables {
			if !impl.EqualTables(a, b) {
				t.Errorf("EqualTables(%v, %v) = false", a, b)
			}
		}
		for _, b := range [][]impl.TableEntry{tableOf("/"), tableOf("/a"), make([]impl.TableEntry, 2)} {
			if impl.EqualTables(a, b) || impl.EqualTables(b, a) {
				t.Errorf("EqualTables of %v and %v = true", a, b)
			}
		}
	}
	for _, a := range emptyNames {
		for _, b := range emptyNames {
			if !impl.EqualTables([]impl.TableEntry{{Name: a, Value: 1}}, []impl.TableEntry{{Name: b, Value: 1}}) {
				t.Errorf("EqualTables of the empty names %#v and %#v = false", a.Parts, b.Parts)
			}
		}
	}
	// Valid or not, tables are equal if they have the same entries at the same positions.
	tables := [][]impl.TableEntry{}
	for _, texts := range sequences([]string{"/", "/a", "/b", "/a/b", "/A"}, 3) {
		tables = append(tables, tableOf(texts...))
	}
	for length := 4; length < 25; length++ {
		tables = append(tables, numbered(length))
	}
	for i, a := range tables {
		for j, b := range tables {
			if got := impl.EqualTables(a, b); got != (i == j) {
				t.Fatalf("EqualTables(%s, %s) = %v", tableText(a), tableText(b), got)
			}
		}
	}
}

func TestEqualTablesOfOneChange(t *testing.T) {
	for length := 1; length <= 22; length++ {
		l := numbered(length)
		if !impl.EqualTables(l, numbered(length)) {
			t.Errorf("EqualTables of %d entries = false", length)
		}
		for at := range length {
			others := [][]impl.TableEntry{numbered(length), numbered(length), numbered(length), numbered(length), slices.Delete(numbered(length), at, at+1)}
			others[0][at].Value++
			others[1][at].Value = -others[1][at].Value
			others[2][at].Name = numberedName(2 * at)
			others[3][at].Name.Parts = append(others[3][at].Name.Parts, "a")
			for i, other := range others {
				if impl.EqualTables(l, other) || impl.EqualTables(other, l) {
					t.Errorf("EqualTables of %d entries, change %d at %d = true", length, i, at)
				}
			}
		}
	}
	for _, v := range anyIntegers {
		for _, w := range anyIntegers {
			if got := impl.EqualTables([]impl.TableEntry{{Value: v}}, []impl.TableEntry{{Value: w}}); got != (v == w) {
				t.Errorf("EqualTables of the values %d and %d = %v", v, w, got)
			}
		}
	}
}

// checkStored holds a table against the values that are stored in it.
func checkStored(t *testing.T, l []impl.TableEntry, stored map[string]int) {
	t.Helper()
	if !impl.ValidTable(l) || len(l) != len(stored) {
		t.Fatalf("the table %s has not the %d entries %v in order", tableText(l), len(stored), stored)
	}
	for s, v := range stored {
		n := named(s)
		if got, ok := impl.LookupEntry(l, n); got != v || !ok {
			t.Fatalf("LookupEntry of %q = %d, %v, want %d, true", s, got, ok, v)
		}
		if at := impl.LongestPrefix(l, n); at < 0 || !impl.EqualNames(l[at].Name, n) {
			t.Fatalf("LongestPrefix of %q, which is stored, = %d", s, at)
		}
		if under := impl.EntriesUnder(l, n); len(under) == 0 || !impl.EqualNames(under[0].Name, n) {
			t.Fatalf("EntriesUnder of %q, which is stored, = %s", s, tableText(under))
		}
	}
}

// A long series of entries that are put and removed leaves what a map would hold.
func TestStoredEntriesAreFound(t *testing.T) {
	texts := []string{}
	for _, parts := range sequences([]string{"a", "b", "a-b"}, 3) {
		texts = append(texts, impl.FormatName(nameOf(parts...)))
	}
	l, stored := []impl.TableEntry(nil), map[string]int{}
	number := uint32(1)
	for step := range 4000 {
		number = number*1664525 + 1013904223
		s := texts[int(number>>8)%len(texts)]
		_, isStored := stored[s]
		if number>>28 < 5 {
			l = impl.RemoveEntry(l, named(s))
			delete(stored, s)
		} else {
			longer, ok := impl.PutEntry(l, named(s), step)
			if want := isStored || len(stored) < 20; ok != want {
				t.Fatalf("PutEntry of %q in %s = %v", s, tableText(l), ok)
			}
			if ok {
				stored[s] = step
			} else if !impl.EqualTables(longer, l) {
				t.Fatalf("PutEntry of %q in %s = %s, false", s, tableText(l), tableText(longer))
			}
			l = longer
		}
		checkStored(t, l, stored)
		if at := impl.LongestPrefix(l, named(s)); at >= 0 && !impl.HasPrefix(named(s), l[at].Name) {
			t.Fatalf("LongestPrefix of %q in %s = %d, which is no prefix", s, tableText(l), at)
		}
	}
}

// The order in which entries are put does not matter.
func TestPutEntryInEachOrder(t *testing.T) {
	want := tableOf(tableNames[:6]...)
	var put func(l []impl.TableEntry, rest []impl.TableEntry)
	put = func(l []impl.TableEntry, rest []impl.TableEntry) {
		if len(rest) == 0 && !impl.EqualTables(l, want) {
			t.Errorf("the table is %s, want %s", tableText(l), tableText(want))
		}
		for i, e := range rest {
			longer, ok := impl.PutEntry(l, e.Name, e.Value)
			if !ok {
				t.Errorf("PutEntry(%s, %q) = false", tableText(l), e.Name.Parts)
			}
			put(longer, slices.Delete(slices.Clone(rest), i, i+1))
		}
	}
	put(nil, want)
}

func guardTable(l []impl.TableEntry) guardedList[impl.TableEntry] {
	spare := tableOf("/q", "/a", "/", "/r", "/a/b", "/q", "/n002", "/z")
	return guardList(l, spare, func(e *impl.TableEntry) []*[]string { return []*[]string{&e.Name.Parts} }, tableText)
}

// scribbleTable changes all of a table's memory, and that of its names.
func scribbleTable(l []impl.TableEntry) {
	whole := l[:cap(l)]
	for i := range whole {
		scribbleParts(whole[i].Name)
		whole[i] = impl.TableEntry{Name: nameOf("changed"), Value: -1}
	}
}

func scribbleParts(n impl.Name) {
	whole := n.Parts[:cap(n.Parts)]
	for i := range whole {
		whole[i] = "changed"
	}
}

// memoryTables are valid and invalid tables; memoryNames are in some of them, and not in others.
var (
	memoryTables = [][]impl.TableEntry{
		nil, {}, tableOf("/"), tableOf("/a"), tableOf("/", "/a", "/a/b"), tableOf("/a/b", "/b"), tableOf("/b", "/a"), tableOf("/a", "/a"), tableOf("/a", "/A"), numbered(19), numbered(20), numbered(21),
	}
	memoryNames = []impl.Name{{}, nameOf("a"), nameOf("a", "b"), nameOf("a", "b", "c"), nameOf("b"), nameOf("c"), nameOf("A"), nameOf("a", ""), numberedName(1), numberedName(2), nameOf("a", "b", "c", "d", "e", "f", "g")}
)

func TestTablesAreLeftAsTheyAre(t *testing.T) {
	for _, l := range memoryTables {
		for _, m := range memoryNames {
			g, other, n := guardTable(l), guardTable(l), guardWith(m.Parts, spareParts)
			name := impl.Name{Parts: n.slice}
			calls := []struct {
				what string
				call func()
			}{
				{"ValidTable", func() { impl.ValidTable(g.slice) }},
				{"PutEntry", func() { impl.PutEntry(g.slice, name, 7) }},
				{"RemoveEntry", func() { impl.RemoveEntry(g.slice, name) }},
				{"LookupEntry", func() { impl.LookupEntry(g.slice, name) }},
				{"LongestPrefix", func() { impl.LongestPrefix(g.slice, name) }},
				{"EntriesUnder", func() { impl.EntriesUnder(g.slice, name) }},
				{"EqualTables", func() { impl.EqualTables(g.slice, other.slice) }},
			}
			for _, c := range calls {
				c.call()
				g.check(t, c.what)
				other.check(t, c.what+", the second table")
				n.check(t, c.what+", the name")
			}
		}
	}
}

var tableResults = []struct {
	what string
	call func(l []impl.TableEntry, n impl.Name) []impl.TableEntry
}{
	{"PutEntry", func(l []impl.TableEntry, n impl.Name) []impl.TableEntry {
		result, _ := impl.PutEntry(l, n, 7)
		return result
	}},
	{"RemoveEntry", impl.RemoveEntry},
	{"EntriesUnder", impl.EntriesUnder},
}

func TestTablesAreNewMemory(t *testing.T) {
	for _, l := range memoryTables {
		for _, m := range memoryNames {
			for _, f := range tableResults {
				g, n := guardTable(l), guardWith(m.Parts, spareParts)
				first := f.call(g.slice, impl.Name{Parts: n.slice})
				second := f.call(g.slice, impl.Name{Parts: n.slice})
				want := tableText(second)
				scribbleTable(first)
				g.check(t, f.what+", its result changed")
				n.check(t, f.what+", its result changed, the name")
				if tableText(second) != want {
					t.Errorf("%s(%s, %q): two results share memory", f.what, tableText(l), m.Parts)
				}
			}
		}
	}
}

// The names of a result are apart from each other, also where those of the argument are parts of the same array.
func TestNamesInTablesAreApart(t *testing.T) {
	array := []string{"a", "b", "c", "d", "e", "f", "g", "h"}
	tables := [][]impl.TableEntry{
		{{Name: nameOf(array[:0]...)}, {Name: nameOf(array[:1]...)}, {Name: nameOf(array[:2]...)}, {Name: nameOf(array[:4]...)}, {Name: nameOf(array[1:2]...)}},
		{{Name: nameOf(array[:2]...)}, {Name: nameOf(array[:2]...)}, {Name: nameOf(array[:7]...)}},
	}
	for _, l := range tables {
		for _, n := range []impl.Name{nameOf(array[:0]...), nameOf(array[:1]...), nameOf(array[:2]...), nameOf(array[:3]...), nameOf(array[7:]...), nameOf("A")} {
			for _, f := range tableResults {
				result := f.call(l, n)
				for i := range result {
					before := tableText(slices.Delete(slices.Clone(result), i, i+1))
					scribbleParts(result[i].Name)
					if after := tableText(slices.Delete(slices.Clone(result), i, i+1)); after != before {
						t.Errorf("%s: the name at %d shares memory with others: %s, want %s", f.what, i, after, before)
					}
				}
			}
		}
	}
	if !slices.Equal(array, []string{"a", "b", "c", "d", "e", "f", "g", "h"}) {
		t.Errorf("the array of the names is %q", array)
	}
}

// What lies behind the last entry, and behind the parts of a name, counts for nothing.
func TestSpareEntriesAreNotRead(t *testing.T) {
	n := impl.Name{Parts: []string{"a", "b", "C"}[:1]}
	l := []impl.TableEntry{{Name: n, Value: 1}, {Name: named("/b"), Value: 2}, {Name: named("/A"), Value: 3}}[:1]
	if !impl.ValidTable(l) || !impl.EqualTables(l, tableOf("/a")) || !impl.EqualTables(tableOf("/a"), l) {
		t.Error("ValidTable or EqualTables")
	}
	for _, s := range []string{"/b", "/A", "/a/b"} {
		if v, ok := impl.LookupEntry(l, named(s)); v != 0 || ok {
			t.Errorf("LookupEntry of %q = %d, %v", s, v, ok)
		}
	}
	if impl.LongestPrefix(l, named("/b")) != -1 || impl.LongestPrefix(l, named("/a/b")) != 0 || impl.LongestPrefix(tableOf("/a/b"), n) != -1 {
		t.Error("LongestPrefix")
	}
	if len(impl.EntriesUnder(l, impl.Name{})) != 1 || len(impl.EntriesUnder(l, named("/b"))) != 0 || len(impl.EntriesUnder(l, named("/a/b"))) != 0 {
		t.Error("EntriesUnder")
	}
	if got := impl.RemoveEntry(l, named("/b")); tableText(got) != tableText(tableOf("/a")) {
		t.Errorf("RemoveEntry = %s", tableText(got))
	}
	checkPut(t, l, named("/b"), math.MinInt, []impl.TableEntry{{Name: nameOf("a"), Value: 1}, {Name: nameOf("b"), Value: math.MinInt}}, true)
	checkPut(t, l, n, 7, []impl.TableEntry{{Name: nameOf("a"), Value: 7}}, true)
}
