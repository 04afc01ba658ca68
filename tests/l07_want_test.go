package tests

import (
	"bytes"
	"fmt"
	"math"
	"slices"
	"strings"
	"testing"

	"loop.example/g00507/impl"
)

var (
	// encodedNames are written out by hand.
	encodedNames = []struct {
		n       impl.Name
		encoded []byte
	}{
		{nameOf(), []byte{0}},
		{nameOf("a"), []byte{1, 1, 'a'}},
		{nameOf("-"), []byte{1, 1, 45}},
		{nameOf("0"), []byte{1, 1, 48}},
		{nameOf("z9-"), []byte{1, 3, 122, 57, 45}},
		{nameOf("a", "b"), []byte{2, 1, 97, 1, 98}},
		{nameOf("ab"), []byte{1, 2, 97, 98}},
		{nameOf("b", "a"), []byte{2, 1, 98, 1, 97}},
		{nameOf("a", "a"), []byte{2, 1, 97, 1, 97}},
		{nameOf("a", "news", "1"), []byte{3, 1, 97, 4, 110, 101, 119, 115, 1, 49}},
		{nameOf("abcdefgh"), []byte{1, 8, 97, 98, 99, 100, 101, 102, 103, 104}},
		{nameOf("a", "bb", "c", "dd", "e", "ff"), []byte{6, 1, 97, 2, 98, 98, 1, 99, 2, 100, 100, 1, 101, 2, 102, 102}},
		{nameOf("--------", "00000000"), []byte{2, 8, 45, 45, 45, 45, 45, 45, 45, 45, 8, 48, 48, 48, 48, 48, 48, 48, 48}},
	}

	bytesBefore = [][]byte{nil, {}, {9}, {0, 128, 255, 7}}

	// notNameEncodings are no encodings of a valid name, whatever follows them.
	notNameEncodings = [][]byte{
		// More parts than a name may have.
		{7, 1, 97, 1, 97, 1, 97, 1, 97, 1, 97, 1, 97, 1, 97}, {7}, {8}, {127}, {255, 1}, {134, 1, 1, 97}, {128, 160, 148, 165, 141, 29},
		// A number of parts that is no encoded integer.
		{128, 0}, {129, 0, 1, 97}, {130, 0, 1, 97, 1, 97}, {129, 128, 0, 1, 97}, {128, 128, 128, 128, 128, 128}, {255, 255, 255, 255, 255, 255},
		// A part that is too short or too long.
		{1, 0}, {2, 1, 97, 0}, {2, 0, 1, 97}, {1, 9, 97, 98, 99, 100, 101, 102, 103, 104, 105}, {2, 1, 97, 9, 97, 98, 99, 100, 101, 102, 103, 104, 105},
		{1, 127}, {1, 136, 2, 97, 97}, {1, 128, 160, 148, 165, 141, 29},
		// The length of a part that is no encoded integer.
		{1, 129, 0, 97}, {1, 130, 0, 97, 98}, {1, 128, 0}, {2, 1, 97, 129, 0, 97}, {1, 255, 255, 255, 255, 255, 255},
		// A part with another byte than a letter, a digit or a minus sign.
		{1, 1, 'A'}, {1, 1, 'Z'}, {1, 1, '/'}, {1, 1, '?'}, {1, 1, '*'}, {1, 1, 0}, {1, 1, 32}, {1, 1, 95}, {1, 1, 96}, {1, 1, 123}, {1, 1, 44}, {1, 1, 46}, {1, 1, 58}, {1, 1, 128}, {1, 1, 225}, {1, 1, 255},
		{1, 2, 97, 65}, {1, 2, 65, 97}, {1, 2, 195, 169}, {2, 1, 97, 1, 65}, {2, 1, 65, 1, 97}, {1, 3, 97, 47, 97}, {1, 8, 97, 98, 99, 100, 101, 102, 103, 72},
	}

	// Numbers within the ranges of an interest, at and beside their limits.
	nonces     = []int{0, 1, 2, 7, 17, 127, 128, 129, 255, 256, 16383, 16384, 65536, impl.MaxNonce - 1, impl.MaxNonce}
	hopLimits  = []int{0, 1, 2, 3, 8, 15, 16}
	lifetimes  = []int{1, 2, 3, 10, 19, 20}
	wantNames  = []impl.Name{nameOf("a"), nameOf("a", "1"), nameOf("-"), nameOf("b", "news", "x"), nameOf("abcdefgh"), nameOf("a", "b", "c", "d", "e", "f")}
	noNonces   = []int{-1, -2, -7, -128, -impl.MaxNonce, math.MinInt, impl.MaxNonce + 1, impl.MaxNonce + 2, 1 << 20, 1 << 32, 1<<32 + 1, impl.MaxInt, impl.MaxInt + 1, 1<<62 + 1, math.MaxInt}
	noHops     = []int{-1, -2, -16, -256, math.MinInt, 17, 18, 32, 127, 128, 256, 257, 1<<32 + 1, impl.MaxInt, impl.MaxInt + 1, 1<<62 + 1, math.MaxInt}
	noLifetime = []int{0, -1, -2, -20, -255, math.MinInt, 21, 22, 40, 127, 128, 256, 257, 1<<32 + 1, impl.MaxInt, impl.MaxInt + 1, 1<<62 + 1, math.MaxInt}
)

func interestOf(s string, nonce int, hopLimit int, lifetime int) impl.Interest {
	return impl.Interest{Name: named(s), Nonce: nonce, HopLimit: hopLimit, Lifetime: lifetime}
}

// interestText is the same for equal interests only.
func interestText(w impl.Interest) string {
	return fmt.Sprintf("%q %d %d %d", w.Name.Parts, w.Nonce, w.HopLimit, w.Lifetime)
}

// validInterests are interests with all combinations of names and numbers at and beside the limits.
func validInterests() []impl.Interest {
	all := []impl.Interest{}
	for _, n := range wantNames {
		for _, nonce := range nonces {
			for _, hopLimit := range hopLimits {
				for _, lifetime := range lifetimes {
					all = append(all, impl.Interest{Name: n, Nonce: nonce, HopLimit: hopLimit, Lifetime: lifetime})
				}
			}
		}
	}
	return all
}

// invalidInterests are interests of which one field, or more of them, do not fit.
func invalidInterests() []impl.Interest {
	all := []impl.Interest{{}, interestOf("/a", -1, 17, 0), interestOf("/", -1, -1, -1), interestOf("/A", impl.MaxNonce+1, 17, 21)}
	for _, n := range slices.Concat(emptyNames, notNames) {
		all = append(all, impl.Interest{Name: n, Nonce: 7, HopLimit: 3, Lifetime: 4}, impl.Interest{Name: n, HopLimit: 1, Lifetime: 1})
	}
	for _, x := range noNonces {
		all = append(all, interestOf("/a/1", x, 3, 4), interestOf("/a", x, 0, 1))
	}
	for _, x := range noHops {
		all = append(all, interestOf("/a/1", 7, x, 4), interestOf("/a", 0, x, 1))
	}
	for _, x := range noLifetime {
		all = append(all, interestOf("/a/1", 7, 3, x), interestOf("/a", 0, 0, x))
	}
	return all
}

// wantVarint encodes n, which is not negative, without the program.
func wantVarint(n int) []byte {
	if n < 128 {
		return []byte{byte(n)}
	}
	return append([]byte{byte(n) | 128}, wantVarint(n>>7)...)
}

func wantEncodedName(n impl.Name) []byte {
	b := wantVarint(len(n.Parts))
	for _, part := range n.Parts {
		b = append(append(b, byte(len(part))), part...)
	}
	return b
}

func wantEncodedInterest(w impl.Interest) []byte {
	return slices.Concat(wantEncodedName(w.Name), wantVarint(w.Nonce), wantVarint(w.HopLimit), wantVarint(w.Lifetime))
}

func TestTheLimitsOfInterestsAreThoseOfTheDocument(t *testing.T) {
	if impl.MaxNonce != 1000000 || impl.MaxHopLimit != 16 || impl.MaxLifetime != 20 {
		t.Errorf("MaxNonce = %d, MaxHopLimit = %d, MaxLifetime = %d", impl.MaxNonce, impl.MaxHopLimit, impl.MaxLifetime)
	}
}

func TestValidInterest(t *testing.T) {
	for _, w := range validInterests() {
		if !impl.ValidInterest(w) {
			t.Errorf("ValidInterest(%s) = false", interestText(w))
		}
	}
	for _, w := range invalidInterests() {
		if impl.ValidInterest(w) {
			t.Errorf("ValidInterest(%s) = true", interestText(w))
		}
	}
}

// An interest that arrives without further hops may still be answered, so that it is valid; without a lifetime it is not.
func TestEachNumberOfAnInterest(t *testing.T) {
	for x := -300; x <= 300; x++ {
		if got, want := impl.ValidInterest(interestOf("/a", x, 1, 1)), x >= 0; got != want {
			t.Errorf("ValidInterest with the nonce %d = %v", x, got)
		}
		if got, want := impl.ValidInterest(interestOf("/a", 1, x, 1)), x >= 0 && x <= 16; got != want {
			t.Errorf("ValidInterest with the hop limit %d = %v", x, got)
		}
		if got, want := impl.ValidInterest(interestOf("/a", 1, 1, x)), x >= 1 && x <= 20; got != want {
			t.Errorf("ValidInterest with the lifetime %d = %v", x, got)
		}
		if got, want := impl.ValidInterest(interestOf("/a", 1000000+x, 1, 1)), x <= 0; got != want {
			t.Errorf("ValidInterest with the nonce %d = %v", 1000000+x, got)
		}
	}
}

func TestEachNameOfAnInterest(t *testing.T) {
	for _, n := range ascendingNames {
		want := impl.ValidName(n) && len(n.Parts) > 0
		if got := impl.ValidInterest(impl.Interest{Name: n, Nonce: 1, HopLimit: 1, Lifetime: 1}); got != want {
			t.Errorf("ValidInterest with the name %q = %v", n.Parts, got)
		}
	}
}

func TestAppendName(t *testing.T) {
	for _, c := range encodedNames {
		for _, before := range bytesBefore {
			want := slices.Concat(before, c.encoded)
			if got := impl.AppendName(before, c.n); !bytes.Equal(got, want) {
				t.Errorf("AppendName(%v, %q) = %v, want %v", before, c.n.Parts, got, want)
			}
		}
	}
	for _, n := range emptyNames {
		if got := impl.AppendName([]byte{5}, n); !bytes.Equal(got, []byte{5, 0}) {
			t.Errorf("AppendName of the empty name = %v", got)
		}
	}
}

func TestAppendNameOfAnInvalidName(t *testing.T) {
	for _, n := range slices.Concat(ascendingNames, notNames) {
		for _, before := range bytesBefore {
			want := slices.Clone(before)
			if impl.ValidName(n) {
				want = append(want, wantEncodedName(n)...)
			}
			if got := impl.AppendName(before, n); !bytes.Equal(got, want) {
				t.Errorf("AppendName(%v, %q) = %v, want %v", before, n.Parts, got, want)
			}
		}
	}
}

func checkReadName(t *testing.T, b []byte, at int, want impl.Name, wantNext int) {
	t.Helper()
	n, next, ok := impl.ReadName(b, at)
	if !slices.Equal(n.Parts, want.Parts) || next != wantNext || !ok {
		t.Errorf("ReadName(%v, %d) = %q, %d, %v, want %q, %d, true", b, at, n.Parts, next, ok, want.Parts, wantNext)
	}
}

func checkNoName(t *testing.T, b []byte, at int) {
	t.Helper()
	if n, next, ok := impl.ReadName(b, at); len(n.Parts) != 0 || next != 0 || ok {
		t.Errorf("ReadName(%v, %d) = %q, %d, %v, want no parts, 0, false", b, at, n.Parts, next, ok)
	}
}

func TestReadName(t *testing.T) {
	for _, c := range encodedNames {
		for _, before := range bytesBefore {
			for _, after := range [][]byte{nil, {0}, {1, 97}, {128}, {255, 255, 255, 255, 255, 255, 255}} {
				checkReadName(t, slices.Concat(before, c.encoded, after), len(before), c.n, len(before)+len(c.encoded))
			}
		}
	}
}

// Every offset in the bytes of some names is tried, of which only some are the start of a name.
func TestReadNameAtEachOffset(t *testing.T) {
	b := []byte{2, 1, 97, 1, 98, 0, 1, 2, 99, 100}
	starts := map[int]struct {
		n    impl.Name
		next int
	}{
		0: {nameOf("a", "b"), 5},
		1: {}, 2: {},
		3: {}, 4: {},
		5: {nameOf(), 6},
		6: {nameOf("cd"), 10},
		7: {}, 8: {}, 9: {},
	}
	for at, want := range starts {
		if want.next == 0 {
			checkNoName(t, b, at)
		} else {
			checkReadName(t, b, at, want.n, want.next)
		}
	}
}

func TestReadNameRejects(t *testing.T) {
	for _, b := range notNameEncodings {
		for _, before := range bytesBefore {
			for _, after := range [][]byte{nil, {97}, {1, 97, 1, 97}, bytes.Repeat([]byte{97}, 300)} {
				checkNoName(t, slices.Concat(before, b, after), len(before))
			}
		}
	}
}

func TestReadNameOutsideTheSlice(t *testing.T) {
	for _, b := range [][]byte{nil, {}, {0}, {1, 1, 97}, {0, 0, 0, 0, 0, 0, 0, 0}} {
		for _, at := range []int{-1, -2, -3, -6, -7, math.MinInt, math.MinInt + 1, len(b), len(b) + 1, len(b) + 3, 1 << 40, math.MaxInt - 6, math.MaxInt - 1, math.MaxInt} {
			g := guard(b)
			checkNoName(t, g.slice, at)
			g.check(t, "ReadName")
		}
	}
}

// A name that is cut short is not completed from behind the slice.
func TestReadNameOfAPart(t *testing.T) {
	for _, c := range encodedNames {
		for _, before := range bytesBefore {
			whole := slices.Concat(before, c.encoded)
			for end := len(before); end < len(whole); end++ {
				checkNoName(t, whole[:end], len(before))
				checkNoName(t, slices.Clone(whole[:end]), len(before))
			}
		}
	}
}

// model7 reads a name from the front of b without the program, and returns how many bytes it has, or 0 if there is none.
func model7(b []byte) ([]string, int) {
	if len(b) == 0 || b[0] > 6 {
		return nil, 0
	}
	parts, at := []string{}, 1
	for range b[0] {
		if at >= len(b) || b[at] > 8 || at+1+int(b[at]) > len(b) {
			return nil, 0
		}
		part := string(b[at+1 : at+1+int(b[at])])
		if !wantPart.MatchString(part) {
			return nil, 0
		}
		parts = append(parts, part)
		at += 1 + len(part)
	}
	return parts, at
}

func TestReadNameOfAllShortBytes(t *testing.T) {
	for _, words := range sequences([]string{"\x00", "\x01", "\x02", "\x03", "\x07", "-", "a", "A", "\x80", "\x81", "\xff"}, 5) {
		b := []byte(strings.Join(words, ""))
		parts, next := model7(b)
		if next == 0 {
			checkNoName(t, b, 0)
		} else {
			checkReadName(t, b, 0, nameOf(parts...), next)
			if again := impl.AppendName(nil, nameOf(parts...)); !bytes.Equal(again, b[:next]) {
				t.Errorf("AppendName of %q = %v, want %v", parts, again, b[:next])
			}
		}
		if t.Failed() {
			return
		}
	}
}

// One byte of an encoded name is replaced by each other one.
func TestReadNameOfAChangedByte(t *testing.T) {
	for _, c := range encodedNames {
		for at := range c.encoded {
			for x := range 256 {
				b := append(with(c.encoded, at, byte(x)), 1, 97, 1, 97)
				parts, next := model7(b)
				if next == 0 {
					checkNoName(t, b, 0)
				} else {
					checkReadName(t, b, 0, nameOf(parts...), next)
				}
			}
		}
	}
}

// Parts of every length are read and written, in names of every length.
func TestReadNameOfAppendName(t *testing.T) {
	for count := range 9 {
		for length := range 11 {
			n := impl.Name{}
			for i := range count {
				n.Parts = append(n.Parts, strings.Repeat(string("abc-0129z"[i]), length))
			}
			encoded := wantEncodedName(n)
			if count == 0 || count <= 6 && length >= 1 && length <= 8 {
				if got := impl.AppendName([]byte{3}, n); !bytes.Equal(got, append([]byte{3}, encoded...)) {
					t.Errorf("AppendName of %q = %v", n.Parts, got)
				}
				checkReadName(t, append([]byte{3}, encoded...), 1, n, 1+len(encoded))
				continue
			}
			if got := impl.AppendName([]byte{3}, n); !bytes.Equal(got, []byte{3}) {
				t.Errorf("AppendName of %q = %v, want [3]", n.Parts, got)
			}
			checkNoName(t, append([]byte{3}, encoded...), 1)
		}
	}
}

// Names in one slice are read one after the other, each from the offset after the one before it.
func TestReadNameOfSeveralNames(t *testing.T) {
	b := []byte{}
	for _, c := range encodedNames {
		b = impl.AppendName(b, c.n)
	}
	at := 0
	for _, c := range encodedNames {
		n, next, ok := impl.ReadName(b, at)
		if !slices.Equal(n.Parts, c.n.Parts) || !ok {
			t.Fatalf("ReadName at %d = %q, %v, want %q", at, n.Parts, ok, c.n.Parts)
		}
		at = next
	}
	if at != len(b) {
		t.Errorf("the names end at %d, want %d", at, len(b))
	}
}

func TestEncodeInterest(t *testing.T) {
	cases := []struct {
		w    impl.Interest
		want []byte
	}{
		{interestOf("/a/1", 7, 3, 4), []byte{2, 1, 97, 1, 49, 7, 3, 4}},
		{interestOf("/a", 0, 0, 1), []byte{1, 1, 97, 0, 0, 1}},
		{interestOf("/a", 1, 2, 3), []byte{1, 1, 97, 1, 2, 3}},
		{interestOf("/a", 3, 2, 1), []byte{1, 1, 97, 3, 2, 1}},
		{interestOf("/a", 127, 16, 20), []byte{1, 1, 97, 127, 16, 20}},
		{interestOf("/a", 128, 16, 20), []byte{1, 1, 97, 128, 1, 16, 20}},
		{interestOf("/a", 300, 0, 20), []byte{1, 1, 97, 172, 2, 0, 20}},
		{interestOf("/a", 16383, 1, 1), []byte{1, 1, 97, 255, 127, 1, 1}},
		{interestOf("/a", 16384, 1, 1), []byte{1, 1, 97, 128, 128, 1, 1, 1}},
		{interestOf("/abcdefgh/-", 1000000, 16, 20), []byte{2, 8, 97, 98, 99, 100, 101, 102, 103, 104, 1, 45, 192, 132, 61, 16, 20}},
	}
	for _, c := range cases {
		if got := impl.EncodeInterest(c.w); !bytes.Equal(got, c.want) {
			t.Errorf("EncodeInterest(%s) = %v, want %v", interestText(c.w), got, c.want)
		}
		checkDecoded(t, c.want, c.w)
	}
}

func TestEncodeInterestOfAnInvalidInterest(t *testing.T) {
	for _, w := range invalidInterests() {
		if got := impl.EncodeInterest(w); len(got) != 0 {
			t.Errorf("EncodeInterest(%s) = %v, want none", interestText(w), got)
		}
	}
}

func checkDecoded(t *testing.T, b []byte, want impl.Interest) {
	t.Helper()
	if got, ok := impl.DecodeInterest(b); interestText(got) != interestText(want) || !ok {
		t.Errorf("DecodeInterest(%v) = %s, %v, want %s, true", b, interestText(got), ok, interestText(want))
	}
}

func checkNotDecoded(t *testing.T, b []byte) {
	t.Helper()
	if got, ok := impl.DecodeInterest(b); len(got.Name.Parts) != 0 || got.Nonce != 0 || got.HopLimit != 0 || got.Lifetime != 0 || ok {
		t.Errorf("DecodeInterest(%v) = %s, %v, want the zero Interest, false", b, interestText(got), ok)
	}
}

func TestInterestsAreDecodedFromTheirEncodings(t *testing.T) {
	encodings := map[string]string{}
	for _, w := range validInterests() {
		b := impl.EncodeInterest(w)
		if want := wantEncodedInterest(w); !bytes.Equal(b, want) {
			t.Errorf("EncodeInterest(%s) = %v, want %v", interestText(w), b, want)
		}
		checkDecoded(t, b, w)
		if other, ok := encodings[string(b)]; ok {
			t.Errorf("%s and %s have the same encoding", other, interestText(w))
		}
		encodings[string(b)] = interestText(w)
	}
}

// Each nonce is decoded; so is each interest with other numbers.
func TestEachNumberIsDecoded(t *testing.T) {
	name := impl.AppendName(nil, nameOf("a"))
	for nonce := range impl.MaxNonce + 300 {
		if nonce > 20000 && nonce%977 != 0 && nonce < impl.MaxNonce-20000 {
			continue
		}
		b := slices.Concat(name, wantVarint(nonce), []byte{1, 1})
		if nonce <= impl.MaxNonce {
			checkDecoded(t, b, interestOf("/a", nonce, 1, 1))
		} else {
			checkNotDecoded(t, b)
		}
	}
	for hopLimit := range 300 {
		for lifetime := range 300 {
			b := slices.Concat(name, []byte{5}, wantVarint(hopLimit), wantVarint(lifetime))
			if hopLimit <= 16 && lifetime >= 1 && lifetime <= 20 {
				checkDecoded(t, b, interestOf("/a", 5, hopLimit, lifetime))
			} else {
				checkNotDecoded(t, b)
			}
		}
	}
}

// Encodings of interests that are not valid are complete otherwise.
func TestDecodeInterestOfAnInvalidInterest(t *testing.T) {
	for _, w := range invalidInterests() {
		if w.Nonce < 0 || w.HopLimit < 0 || w.Lifetime < 0 {
			continue
		}
		checkNotDecoded(t, wantEncodedInterest(w))
	}
}

func TestDecodeInterestRejects(t *testing.T) {
	numbers := []byte{7, 3, 4}
	for _, b := range notNameEncodings {
		checkNotDecoded(t, slices.Concat(b, numbers))
	}
	for _, b := range [][]byte{
		nil, {}, {0}, {1}, {7}, {7, 3, 4},
		// The empty name, and names that are followed by fewer than three integers, or by more.
		{0, 7, 3, 4}, {1, 1, 97}, {1, 1, 97, 7}, {1, 1, 97, 7, 3}, {1, 1, 97, 7, 3, 4, 0}, {1, 1, 97, 7, 3, 4, 5}, {0, 1, 1, 97, 7, 3, 4},
		// A name of another number of parts than it says.
		{2, 1, 97, 7, 3, 4}, {1, 1, 97, 1, 98, 7, 3, 4}, {3, 1, 97, 1, 98, 7, 3, 4}, {0, 1, 97, 1, 98, 7, 3, 4},
		// A part of another length than it says.
		{1, 2, 97, 7, 3, 4}, {1, 1, 97, 98, 7, 3, 4, 5},
		// Integers that are encoded in another way.
		{129, 0, 1, 97, 7, 3, 4}, {1, 129, 0, 97, 7, 3, 4}, {1, 1, 97, 135, 0, 3, 4}, {1, 1, 97, 7, 131, 0, 4}, {1, 1, 97, 7, 3, 132, 0}, {1, 1, 97, 128, 0, 3, 4}, {1, 1, 97, 135, 128, 0, 3, 4},
		// Integers that are not complete.
		{1, 1, 97, 7, 3, 132}, {1, 1, 97, 7, 131}, {1, 1, 97, 7, 131, 132}, {1, 1, 97, 135}, {1, 1, 97, 255, 255, 255, 255, 255, 255},
		// Bytes before the name.
		{9, 1, 1, 97, 7, 3, 4}, {0, 1, 1, 97, 7, 3, 4},
	} {
		checkNotDecoded(t, b)
	}
}

// An encoding that is cut short, or has a byte left over, is that of no interest.
func TestDecodeInterestOfAPart(t *testing.T) {
	for _, w := range validInterests() {
		b := impl.EncodeInterest(w)
		for end := range b {
			checkNotDecoded(t, b[:end])
			if end > 0 {
				checkNotDecoded(t, b[end:])
			}
		}
		for _, x := range []byte{0, 1, 20, 97, 128, 255} {
			checkNotDecoded(t, append(slices.Clone(b), x))
		}
		if t.Failed() {
			return
		}
	}
}

// shortInterests are interests of a name with at most four bytes behind it, among them all whose hop limit and lifetime are in the alphabet of the test below.
func shortInterests(n impl.Name) map[string]impl.Interest {
	all := map[string]impl.Interest{}
	for nonce := range 1 << 14 {
		for _, hopLimit := range []int{0, 1, 2, 15, 16} {
			for _, lifetime := range []int{1, 2, 15, 16, 17, 20} {
				w := impl.Interest{Name: n, Nonce: nonce, HopLimit: hopLimit, Lifetime: lifetime}
				all[string(wantEncodedInterest(w))] = w
			}
		}
	}
	return all
}

// Nothing but these encodings is decoded, among all bytes of that length.
func TestDecodeInterestOfAllShortBytes(t *testing.T) {
	alphabet := []string{"\x00", "\x01", "\x02", "\x0f", "\x10", "\x11", "\x14", "\x15", "a", "\x80", "\x81", "\xff"}
	endings := sequences(alphabet, 4)
	for _, n := range []impl.Name{nameOf(), nameOf("a"), nameOf("a", "a"), nameOf("A")} {
		wanted := map[string]impl.Interest{}
		if impl.ValidName(n) && len(n.Parts) > 0 {
			wanted = shortInterests(n)
		}
		found := 0
		for _, words := range endings {
			b := append(wantEncodedName(n), strings.Join(words, "")...)
			if w, ok := wanted[string(b)]; ok {
				checkDecoded(t, b, w)
				found++
			} else {
				checkNotDecoded(t, b)
			}
			if t.Failed() {
				return
			}
		}
		if len(wanted) > 0 && found == 0 {
			t.Errorf("no interest of %q is among the bytes", n.Parts)
		}
	}
}

// One byte of an encoding is replaced by each other one: it is the encoding of the interest that is decoded, or of none.
func TestDecodeInterestOfAChangedByte(t *testing.T) {
	for _, w := range []impl.Interest{interestOf("/a/1", 7, 3, 4), interestOf("/ab", 0, 0, 1), interestOf("/a/b/c/d/e/f", 1000000, 16, 20), interestOf("/a", 300, 0, 20)} {
		b := impl.EncodeInterest(w)
		for at := range b {
			for x := range 256 {
				changed := with(b, at, byte(x))
				got, ok := impl.DecodeInterest(changed)
				if !ok {
					checkNotDecoded(t, changed)
					continue
				}
				if again := wantEncodedInterest(got); !bytes.Equal(again, changed) || !impl.ValidInterest(got) {
					t.Errorf("DecodeInterest(%v) = %s, true, whose encoding is %v", changed, interestText(got), again)
				}
				if same := interestText(got) == interestText(w); same != (byte(x) == b[at]) {
					t.Errorf("DecodeInterest(%v) = %s, true", changed, interestText(got))
				}
			}
		}
	}
}

func checkDecrement(t *testing.T, w impl.Interest) {
	t.Helper()
	want, wantOK := w, w.HopLimit >= 1
	if wantOK {
		want.HopLimit = w.HopLimit - 1
	}
	before := interestText(w)
	if got, ok := impl.DecrementHops(w); interestText(got) != interestText(want) || ok != wantOK {
		t.Errorf("DecrementHops(%s) = %s, %v, want %s, %v", before, interestText(got), ok, interestText(want), wantOK)
	}
	if after := interestText(w); after != before {
		t.Errorf("DecrementHops(%s) changes its argument to %s", before, after)
	}
}

func TestDecrementHops(t *testing.T) {
	cases := []struct {
		hopLimit, want int
		wantOK         bool
	}{
		{16, 15, true}, {15, 14, true}, {3, 2, true}, {2, 1, true}, {1, 0, true}, {0, 0, false},
		// Hop limits that are not valid: those of at least 1 are decremented as well.
		{17, 16, true}, {18, 17, true}, {256, 255, true}, {math.MaxInt, math.MaxInt - 1, true},
		{-1, -1, false}, {-2, -2, false}, {-16, -16, false}, {math.MinInt, math.MinInt, false}, {math.MinInt + 1, math.MinInt + 1, false},
	}
	for _, c := range cases {
		want := interestText(interestOf("/a/1", 7, c.want, 4))
		if got, ok := impl.DecrementHops(interestOf("/a/1", 7, c.hopLimit, 4)); interestText(got) != want || ok != c.wantOK {
			t.Errorf("DecrementHops of the hop limit %d = %s, %v, want %s, %v", c.hopLimit, interestText(got), ok, want, c.wantOK)
		}
	}
}

// The other fields stay as they are, valid or not.
func TestDecrementHopsOfAnyInterest(t *testing.T) {
	for _, w := range slices.Concat(validInterests(), invalidInterests()) {
		checkDecrement(t, w)
	}
	for _, n := range slices.Concat(emptyNames, notNames, ascendingNames) {
		for _, hopLimit := range []int{-1, 0, 1, 2, 16, 17} {
			checkDecrement(t, impl.Interest{Name: n, Nonce: -5, HopLimit: hopLimit, Lifetime: 99})
		}
	}
	for _, x := range anyIntegers {
		checkDecrement(t, interestOf("/a", x, 1, 1))
		checkDecrement(t, interestOf("/a", x, 0, 1))
		checkDecrement(t, interestOf("/a", 1, x, 1))
		checkDecrement(t, interestOf("/a", 1, 1, x))
		checkDecrement(t, interestOf("/a", 1, 0, x))
	}
}

// An interest traverses as many further nodes as its hop limit says, is valid at all of them, and then stays as it is.
func TestAnInterestHasAsManyHopsAsItSays(t *testing.T) {
	for hopLimit := range impl.MaxHopLimit + 1 {
		w, hops := interestOf("/a/1", 7, hopLimit, 4), 0
		for {
			next, ok := impl.DecrementHops(w)
			if !ok {
				break
			}
			w = next
			hops++
			if !impl.ValidInterest(w) || hops > hopLimit {
				t.Fatalf("after %d hops of %d: %s", hops, hopLimit, interestText(w))
			}
		}
		if hops != hopLimit || interestText(w) != interestText(interestOf("/a/1", 7, 0, 4)) {
			t.Errorf("%d hops of %d: %s", hops, hopLimit, interestText(w))
		}
		for range 3 {
			checkDecrement(t, w)
		}
		checkDecoded(t, impl.EncodeInterest(w), w)
	}
}

func TestFormatInterest(t *testing.T) {
	cases := []struct {
		w    impl.Interest
		want string
	}{
		{interestOf("/a/1", 7, 3, 4), "/a/1?7"},
		{interestOf("/a/1", 0, 3, 4), "/a/1?0"},
		{interestOf("/a/1", 7, 0, 20), "/a/1?7"},
		{interestOf("/a", 10, 16, 1), "/a?10"},
		{interestOf("/a", 1000000, 16, 1), "/a?1000000"},
		{interestOf("/a/b/c/d/e/f", 120, 1, 1), "/a/b/c/d/e/f?120"},
		{interestOf("/abcdefgh/-", 1, 1, 1), "/abcdefgh/-?1"},
		// Interests that are not valid have a text, too.
		{impl.Interest{}, "/?0"},
		{interestOf("/", 5, 1, 1), "/?5"},
		{interestOf("/a", -1, 1, 1), "/a?-1"},
		{interestOf("/a", 1000001, 1, 1), "/a?1000001"},
		{interestOf("/a", math.MinInt, 1, 1), "/a?-9223372036854775808"},
		{interestOf("/a", math.MaxInt, -1, 0), "/a?9223372036854775807"},
		{interestOf("/A/?x", 3, 17, 21), "/A/?x?3"},
		{impl.Interest{Name: nameOf("a", ""), Nonce: 3}, "/a/?3"},
		{impl.Interest{Name: nameOf("a", "b", "c", "d", "e", "f", "g"), Nonce: 3}, "/a/b/c/d/e/f/g?3"},
	}
	for _, c := range cases {
		if got := impl.FormatInterest(c.w); got != c.want {
			t.Errorf("FormatInterest(%s) = %q, want %q", interestText(c.w), got, c.want)
		}
	}
	for _, n := range emptyNames {
		if got := impl.FormatInterest(impl.Interest{Name: n, Nonce: 2}); got != "/?2" {
			t.Errorf("FormatInterest of the empty name = %q", got)
		}
	}
}

func TestEqualInterests(t *testing.T) {
	all := slices.Concat(invalidInterests(), []impl.Interest{
		interestOf("/a/1", 7, 3, 4),
		// Each differs from the first one in one field only.
		interestOf("/a/2", 7, 3, 4), interestOf("/b/1", 7, 3, 4), interestOf("/a", 7, 3, 4), interestOf("/a/1/1", 7, 3, 4), interestOf("/a1", 7, 3, 4), interestOf("/1/a", 7, 3, 4),
		interestOf("/a/1", 8, 3, 4), interestOf("/a/1", 6, 3, 4), interestOf("/a/1", 0, 3, 4), interestOf("/a/1", 7+1<<32, 3, 4),
		interestOf("/a/1", 7, 2, 4), interestOf("/a/1", 7, 4, 4), interestOf("/a/1", 7, 0, 4),
		interestOf("/a/1", 7, 3, 3), interestOf("/a/1", 7, 3, 5), interestOf("/a/1", 7, 3, 1),
		// The same numbers in other fields.
		interestOf("/a/1", 3, 7, 4), interestOf("/a/1", 7, 4, 3), interestOf("/a/1", 4, 3, 7),
	})
	for _, a := range all {
		for _, b := range all {
			other := b
			other.Name = nameOf(append(make([]string, 0, 9), b.Name.Parts...)...)
			want := interestText(a) == interestText(b)
			if got := impl.EqualInterests(a, other); got != want {
				t.Errorf("EqualInterests(%s, %s) = %v", interestText(a), interestText(b), got)
			}
		}
	}
	for _, n := range emptyNames {
		for _, m := range emptyNames {
			if !impl.EqualInterests(impl.Interest{Name: n, Nonce: 1}, impl.Interest{Name: m, Nonce: 1}) {
				t.Errorf("EqualInterests of the empty names %#v and %#v = false", n.Parts, m.Parts)
			}
		}
	}
}

func TestEqualInterestsOfAnyNumbers(t *testing.T) {
	for _, x := range anyIntegers {
		for _, y := range anyIntegers {
			for _, pair := range [][2]impl.Interest{
				{interestOf("/a", x, 1, 1), interestOf("/a", y, 1, 1)},
				{interestOf("/a", 1, x, 1), interestOf("/a", 1, y, 1)},
				{interestOf("/a", 1, 1, x), interestOf("/a", 1, 1, y)},
			} {
				if got, want := impl.EqualInterests(pair[0], pair[1]), x == y; got != want {
					t.Errorf("EqualInterests(%s, %s) = %v", interestText(pair[0]), interestText(pair[1]), got)
				}
			}
		}
	}
}

// memoryInterests are interests with and without hops, valid or not.
func memoryInterests() []impl.Interest {
	all := invalidInterests()
	for _, n := range slices.Concat(wantNames, memoryNames) {
		for _, hopLimit := range []int{-1, 0, 1, 16, 17} {
			all = append(all, impl.Interest{Name: n, Nonce: 300, HopLimit: hopLimit, Lifetime: 4})
		}
	}
	return all
}

func TestInterestsAreLeftAsTheyAre(t *testing.T) {
	for _, w := range memoryInterests() {
		first, second := guardWith(w.Name.Parts, spareParts), guardWith(w.Name.Parts, spareParts)
		a, b := w, w
		a.Name, b.Name = impl.Name{Parts: first.slice}, impl.Name{Parts: second.slice}
		calls := []struct {
			what string
			call func()
		}{
			{"ValidInterest", func() { impl.ValidInterest(a) }},
			{"AppendName", func() { impl.AppendName([]byte{9}, a.Name) }},
			{"EncodeInterest", func() { impl.EncodeInterest(a) }},
			{"DecrementHops", func() { impl.DecrementHops(a) }},
			{"FormatInterest", func() { impl.FormatInterest(a) }},
			{"EqualInterests", func() { impl.EqualInterests(a, b) }},
		}
		for _, c := range calls {
			c.call()
			first.check(t, c.what)
			second.check(t, c.what+", the second interest")
		}
	}
}

func TestAppendNameMakesNewMemory(t *testing.T) {
	for _, before := range [][]byte{nil, {}, {9}, {1, 2, 3}} {
		for _, n := range slices.Concat(wantNames, memoryNames, notNames) {
			b, parts := guard(before), guardWith(n.Parts, spareParts)
			first := impl.AppendName(b.slice, impl.Name{Parts: parts.slice})
			second := impl.AppendName(b.slice, impl.Name{Parts: parts.slice})
			b.check(t, "AppendName")
			want := slices.Clone(second)
			scribble(first)
			b.check(t, "AppendName, its result changed")
			parts.check(t, "AppendName, its result changed, the name")
			if !bytes.Equal(second, want) {
				t.Errorf("AppendName(%v, %q): two results share memory", before, n.Parts)
			}
		}
	}
}

func TestEncodeInterestMakesNewMemory(t *testing.T) {
	for _, w := range memoryInterests() {
		first, second := impl.EncodeInterest(w), impl.EncodeInterest(w)
		want := slices.Clone(second)
		scribble(first)
		if !bytes.Equal(second, want) || !bytes.Equal(impl.EncodeInterest(w), want) {
			t.Errorf("EncodeInterest(%s): two results share memory", interestText(w))
		}
	}
}

// A name that was read stays as it is when the bytes that it was read from change, and the other way round.
func TestReadNamesAreNewMemory(t *testing.T) {
	encodings := slices.Clone(notNameEncodings)
	for _, c := range encodedNames {
		encodings = append(encodings, c.encoded)
	}
	for _, encoded := range encodings {
		b := guard(encoded)
		first, _, _ := impl.ReadName(b.slice, 0)
		second, _, _ := impl.ReadName(b.slice, 0)
		b.check(t, "ReadName")
		want := slices.Clone(second.Parts)
		scribbleParts(first)
		b.check(t, "ReadName, its result changed")
		scribble(b.slice)
		if !slices.Equal(second.Parts, want) {
			t.Errorf("ReadName of %v shares memory with its argument or with another result", encoded)
		}
	}
}

func TestDecodedInterestsAreNewMemory(t *testing.T) {
	for _, w := range memoryInterests() {
		if !impl.ValidInterest(w) {
			continue
		}
		b := guard(impl.EncodeInterest(w))
		first, _ := impl.DecodeInterest(b.slice)
		second, _ := impl.DecodeInterest(b.slice)
		b.check(t, "DecodeInterest")
		scribbleParts(first.Name)
		b.check(t, "DecodeInterest, its result changed")
		scribble(b.slice)
		if interestText(second) != interestText(w) {
			t.Errorf("DecodeInterest of the encoding of %s shares memory: %s", interestText(w), interestText(second))
		}
	}
}

// Also an interest without further hops, which is returned as it is, is a copy.
func TestDecrementedInterestsAreNewMemory(t *testing.T) {
	for _, w := range memoryInterests() {
		checkNewParts(t, "DecrementHops", w.Name, func(n impl.Name) impl.Name {
			interest := w
			interest.Name = n
			next, _ := impl.DecrementHops(interest)
			return next.Name
		})
	}
}

// What lies behind the parts of a name, or behind the bytes of an encoding, counts for nothing.
func TestSparePartsOfInterestsAreNotRead(t *testing.T) {
	n := impl.Name{Parts: []string{"a", "b", "C"}[:1]}
	w := impl.Interest{Name: n, Nonce: 7, HopLimit: 3, Lifetime: 4}
	if !impl.ValidInterest(w) || impl.FormatInterest(w) != "/a?7" || !impl.EqualInterests(w, interestOf("/a", 7, 3, 4)) || impl.EqualInterests(w, interestOf("/a/b", 7, 3, 4)) {
		t.Errorf("ValidInterest, EqualInterests or FormatInterest = %q", impl.FormatInterest(w))
	}
	if got := impl.EncodeInterest(w); !bytes.Equal(got, []byte{1, 1, 97, 7, 3, 4}) {
		t.Errorf("EncodeInterest = %v", got)
	}
	if got := impl.AppendName([]byte{8, 9}[:1], n); !bytes.Equal(got, []byte{8, 1, 1, 97}) {
		t.Errorf("AppendName = %v", got)
	}
	b := []byte{1, 1, 97, 7, 3, 4, 5, 6}
	checkDecoded(t, b[:6], w)
	checkNotDecoded(t, b[:5])
	checkNotDecoded(t, b[:7])
}
