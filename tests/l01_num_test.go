package tests

import (
	"math"
	"strconv"
	"strings"
	"testing"

	"loop.example/g00507/impl"
)

func TestMaxIntIsTheLimitOfTheDocument(t *testing.T) {
	if impl.MaxInt != 1000000000000 {
		t.Errorf("MaxInt = %d", impl.MaxInt)
	}
}

func TestFormatInt(t *testing.T) {
	cases := []struct {
		n    int
		want string
	}{
		{0, "0"}, {7, "7"}, {10, "10"}, {17, "17"}, {100, "100"}, {907, "907"},
		{-1, "-1"}, {-3, "-3"}, {-10, "-10"},
		{impl.MaxInt - 1, "999999999999"},
		{impl.MaxInt, "1000000000000"},
		{impl.MaxInt + 1, "1000000000001"},
		{-impl.MaxInt, "-1000000000000"},
		{math.MaxInt, "9223372036854775807"},
		{math.MinInt, "-9223372036854775808"},
	}
	for _, c := range cases {
		if got := impl.FormatInt(c.n); got != c.want {
			t.Errorf("FormatInt(%d) = %q, want %q", c.n, got, c.want)
		}
	}
}

func TestParseIntReadsItsDigits(t *testing.T) {
	cases := []struct {
		s    string
		want int
	}{
		{"0", 0}, {"1", 1}, {"9", 9}, {"10", 10}, {"17", 17}, {"100", 100}, {"1000", 1000},
		{"4294967296", 4294967296},
		{"123456789012", 123456789012},
		{"999999999999", 999999999999},
		{"1000000000000", 1000000000000},
	}
	for _, c := range cases {
		if n, ok := impl.ParseInt(c.s); n != c.want || !ok {
			t.Errorf("ParseInt(%q) = %d, %v, want %d, true", c.s, n, ok, c.want)
		}
	}
}

func TestParseIntRejects(t *testing.T) {
	texts := []string{
		"", " ", "-", "+", "a", "/", ":", "x", "zero",
		"00", "01", "007", "0000000000000", "01000000000000",
		"+0", "+1", "-0", "-1", "-17", "--1", "+-1", "-1000000000000",
		" 1", "1 ", "1 2", "\t1", "1\n", "\n", "1\x00", "\x00", "1\xff",
		"1a", "a1", "1.", "1.0", ".5", "1e3", "1,000", "1_000", "0x10", "0b1", "0o7", "1f",
		"\u0661", "\uff11", "1\u0661", "\u22121",
		"1000000000001", "1000000000010", "9999999999999", "10000000000000",
		"9223372036854775807", "9223372036854775808", "-9223372036854775808", "-9223372036854775809",
		// These wrap around to 0, 1 and 17 in 64 bits.
		"18446744073709551616", "18446744073709551617", "18446744073709551633",
		strings.Repeat("9", 100), "1" + strings.Repeat("0", 1000), strings.Repeat("0", 1000),
	}
	for _, s := range texts {
		if n, ok := impl.ParseInt(s); n != 0 || ok {
			t.Errorf("ParseInt(%q) = %d, %v, want 0, false", s, n, ok)
		}
	}
}

func TestParseIntOfOneByte(t *testing.T) {
	for i := range 256 {
		want, wantOK := 0, false
		if '0' <= i && i <= '9' {
			want, wantOK = i-'0', true
		}
		s := string([]byte{byte(i)})
		if n, ok := impl.ParseInt(s); n != want || ok != wantOK {
			t.Errorf("ParseInt(%q) = %d, %v, want %d, %v", s, n, ok, want, wantOK)
		}
	}
}

// Every text of up to four of these characters is parsed if it is in the list of formatted integers, and only then.
func TestParseIntAcceptsExactlyFormattedIntegers(t *testing.T) {
	formatted := map[string]int{}
	for n := range 10000 {
		formatted[strconv.Itoa(n)] = n
	}
	texts := []string{""}
	for first, length := 0, 0; length < 4; length++ {
		last := len(texts)
		for _, s := range texts[first:last] {
			for _, c := range "019-+ _x" {
				texts = append(texts, s+string(c))
			}
		}
		first = last
	}
	for _, s := range texts {
		want, wantOK := formatted[s]
		if n, ok := impl.ParseInt(s); n != want || ok != wantOK {
			t.Errorf("ParseInt(%q) = %d, %v, want %d, %v", s, n, ok, want, wantOK)
		}
	}
}

func TestParseIntOfFormatInt(t *testing.T) {
	checkRoundTrip := func(n int) {
		want, wantOK := 0, false
		if 0 <= n && n <= impl.MaxInt {
			want, wantOK = n, true
		}
		if got, ok := impl.ParseInt(impl.FormatInt(n)); got != want || ok != wantOK {
			t.Errorf("ParseInt(FormatInt(%d)) = %d, %v, want %d, %v", n, got, ok, want, wantOK)
		}
	}
	for n := -1200; n <= 1200; n++ {
		checkRoundTrip(n)
		checkRoundTrip(impl.MaxInt + n)
		checkRoundTrip(-impl.MaxInt + n)
	}
	for power := 10; power <= 100000000000000000; power *= 10 {
		for n := power - 2; n <= power+2; n++ {
			checkRoundTrip(n)
			checkRoundTrip(-n)
		}
	}
	checkRoundTrip(math.MaxInt)
	checkRoundTrip(math.MinInt)
}

func TestMinAndMax(t *testing.T) {
	cases := []struct{ less, more int }{
		{-1, 2}, {0, 0}, {0, 1}, {-1, 0}, {-3, -2}, {5, 5}, {-5, -5}, {-7, 7},
		{impl.MaxInt, impl.MaxInt + 1}, {-impl.MaxInt - 1, -impl.MaxInt},
		{0, math.MaxInt}, {math.MinInt, 0}, {-1, math.MaxInt}, {math.MinInt, 1},
		{math.MinInt, math.MaxInt}, {math.MinInt, math.MinInt}, {math.MaxInt, math.MaxInt},
		{math.MaxInt - 1, math.MaxInt}, {math.MinInt, math.MinInt + 1},
	}
	for _, c := range cases {
		if got := impl.Min(c.less, c.more); got != c.less {
			t.Errorf("Min(%d, %d) = %d", c.less, c.more, got)
		}
		if got := impl.Min(c.more, c.less); got != c.less {
			t.Errorf("Min(%d, %d) = %d", c.more, c.less, got)
		}
		if got := impl.Max(c.less, c.more); got != c.more {
			t.Errorf("Max(%d, %d) = %d", c.less, c.more, got)
		}
		if got := impl.Max(c.more, c.less); got != c.more {
			t.Errorf("Max(%d, %d) = %d", c.more, c.less, got)
		}
	}
}

func TestCeilDiv(t *testing.T) {
	cases := []struct{ a, b, want int }{
		{0, 1, 0}, {0, 7, 0}, {1, 1, 1}, {1, 2, 1}, {5, 3, 2}, {6, 3, 2}, {7, 3, 3}, {8, 3, 3}, {9, 3, 3}, {3, 7, 1},
		{0, impl.MaxInt, 0}, {1, impl.MaxInt, 1},
		{impl.MaxInt, 1, impl.MaxInt}, {impl.MaxInt, 3, 333333333334},
		{impl.MaxInt - 1, 3, 333333333333}, {impl.MaxInt, impl.MaxInt, 1},
		{impl.MaxInt, impl.MaxInt - 1, 2}, {impl.MaxInt - 1, impl.MaxInt, 1},
	}
	for _, c := range cases {
		if got := impl.CeilDiv(c.a, c.b); got != c.want {
			t.Errorf("CeilDiv(%d, %d) = %d, want %d", c.a, c.b, got, c.want)
		}
	}
}

func TestCeilDivOutsideItsRanges(t *testing.T) {
	cases := []struct{ a, b int }{
		{-1, 1}, {-7, 3}, {-7, -3}, {7, 0}, {0, 0}, {7, -1}, {7, -3},
		{impl.MaxInt + 1, 1}, {impl.MaxInt + 1, impl.MaxInt}, {1, impl.MaxInt + 1}, {impl.MaxInt, impl.MaxInt + 1},
		{math.MaxInt, 1}, {math.MaxInt, 2}, {1, math.MaxInt}, {math.MaxInt, math.MaxInt},
		{math.MinInt, 1}, {math.MinInt, -1}, {1, math.MinInt}, {math.MinInt, math.MinInt}, {math.MinInt, 0},
	}
	for _, c := range cases {
		if got := impl.CeilDiv(c.a, c.b); got != 0 {
			t.Errorf("CeilDiv(%d, %d) = %d, want 0", c.a, c.b, got)
		}
	}
}

// The quotient rounded up is the least one whose product with b reaches a.
func TestCeilDivIsTheLeastSufficientQuotient(t *testing.T) {
	for a := range 80 {
		for b := 1; b < 30; b++ {
			want := 0
			for want*b < a {
				want++
			}
			if got := impl.CeilDiv(a, b); got != want {
				t.Errorf("CeilDiv(%d, %d) = %d, want %d", a, b, got, want)
			}
		}
	}
}

func TestMod(t *testing.T) {
	cases := []struct{ n, m, want int }{
		{0, 1, 0}, {0, 7, 0}, {6, 7, 6}, {7, 7, 0}, {8, 7, 1}, {23, 7, 2},
		{-1, 7, 6}, {-6, 7, 1}, {-7, 7, 0}, {-8, 7, 6}, {-14, 7, 0}, {-1, 1, 0}, {-1, 2, 1},
		{impl.MaxInt, impl.MaxInt, 0}, {impl.MaxInt - 1, impl.MaxInt, impl.MaxInt - 1},
		{impl.MaxInt + 1, impl.MaxInt, 1}, {-1, impl.MaxInt, impl.MaxInt - 1},
		{-impl.MaxInt, impl.MaxInt, 0}, {-impl.MaxInt - 1, impl.MaxInt, impl.MaxInt - 1},
		{math.MaxInt, 1, 0}, {math.MaxInt, 10, 7}, {math.MaxInt, impl.MaxInt, 36854775807},
		{math.MinInt, 1, 0}, {math.MinInt, 2, 0}, {math.MinInt, 10, 2}, {math.MinInt, impl.MaxInt, 963145224192},
	}
	for _, c := range cases {
		if got := impl.Mod(c.n, c.m); got != c.want {
			t.Errorf("Mod(%d, %d) = %d, want %d", c.n, c.m, got, c.want)
		}
	}
}

func TestModOutsideItsRange(t *testing.T) {
	for _, n := range []int{0, 1, 5, -1, -5, impl.MaxInt, impl.MaxInt + 5, math.MaxInt, math.MinInt} {
		for _, m := range []int{0, -1, -7, -impl.MaxInt, impl.MaxInt + 1, math.MaxInt, math.MinInt} {
			if got := impl.Mod(n, m); got != 0 {
				t.Errorf("Mod(%d, %d) = %d, want 0", n, m, got)
			}
		}
	}
}

// The numbers with the same remainder repeat every m, below 0 as above.
func TestModCountsUpFromAMultiple(t *testing.T) {
	for m := 1; m < 30; m++ {
		want := 0
		for n := -20 * m; n <= 20*m; n++ {
			if got := impl.Mod(n, m); got != want {
				t.Errorf("Mod(%d, %d) = %d, want %d", n, m, got, want)
			}
			want++
			if want == m {
				want = 0
			}
		}
	}
}

func TestInRange(t *testing.T) {
	cases := []struct {
		n, a, b int
		want    bool
	}{
		{2, 2, 3, true}, {3, 2, 3, true}, {1, 2, 3, false}, {4, 2, 3, false},
		{5, 5, 5, true}, {4, 5, 5, false}, {6, 5, 5, false},
		{0, -1, 1, true}, {-1, -1, 1, true}, {-2, -1, 1, false}, {2, -1, 1, false},
		{-3, -4, -2, true}, {-5, -4, -2, false}, {-1, -4, -2, false},
		// Nothing is in a range that ends before it begins.
		{2, 3, 1, false}, {3, 3, 1, false}, {1, 3, 1, false},
		{impl.MaxInt, 0, impl.MaxInt, true}, {impl.MaxInt + 1, 0, impl.MaxInt, false},
		{math.MaxInt, math.MinInt, math.MaxInt, true}, {math.MinInt, math.MinInt, math.MaxInt, true},
		{math.MinInt, 0, math.MaxInt, false}, {math.MaxInt, math.MinInt, 0, false},
		{math.MinInt, 1, math.MaxInt, false}, {math.MaxInt, math.MinInt, -1, false},
		{0, math.MaxInt, math.MinInt, false},
	}
	for _, c := range cases {
		if got := impl.InRange(c.n, c.a, c.b); got != c.want {
			t.Errorf("InRange(%d, %d, %d) = %v, want %v", c.n, c.a, c.b, got, c.want)
		}
	}
}
