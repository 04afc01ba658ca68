package tests

import (
	"bytes"
	"math"
	"math/big"
	"slices"
	"testing"

	"loop.example/g00507/impl"
)

// Small integers, the multiples of Prime and the limits, with their neighbours; several are equal modulo Prime.
var anyIntegers = []int{
	0, 1, 2, 13, 97, 255, 256, 1000003, impl.Prime - 2, impl.Prime - 1, impl.Prime, impl.Prime + 1, 2*impl.Prime - 1, 2 * impl.Prime, 1 << 40,
	-1, -2, -13, -impl.Prime + 1, -impl.Prime, -impl.Prime - 1, -2 * impl.Prime, -1 << 40,
	impl.MaxInt, impl.MaxInt + 1, -impl.MaxInt, math.MaxInt - 1, math.MaxInt, math.MinInt, math.MinInt + 1,
}

var anyBytes = [][]byte{
	nil, {}, {0}, {255}, {128}, []byte("a"), []byte("hello"), {0, 0, 0, 0}, {255, 255, 255}, {1, 255, 128, 127, 0},
	counting(60), counting(300),
}

func bigMod(n int) *big.Int {
	return new(big.Int).Mod(big.NewInt(int64(n)), big.NewInt(2147483647))
}

// wantDigest follows the document's words with integers that have no limits.
func wantDigest(l []int) int {
	d := big.NewInt(11)
	for _, x := range l {
		d.Mul(d, big.NewInt(1000003))
		d.Add(d, bigMod(x))
		d.Add(d, big.NewInt(13))
		d.Mod(d, big.NewInt(2147483647))
	}
	return int(d.Int64())
}

func wantMAC(secret int, l []int) int {
	return wantDigest(slices.Concat([]int{secret}, l, []int{secret}))
}

// anyLists returns lists of up to three of anyIntegers, and longer ones.
func anyLists() [][]int {
	lists := [][]int{nil, {}, anyIntegers, slices.Concat(anyIntegers, anyIntegers)}
	for i, x := range anyIntegers {
		lists = append(lists, []int{x}, slices.Repeat([]int{x}, 50))
		for j, y := range anyIntegers {
			lists = append(lists, []int{x, y}, []int{x, y, anyIntegers[(i+j)%len(anyIntegers)]})
		}
	}
	return lists
}

// with returns l with x at index i, in new memory.
func with[T byte | int](l []T, i int, x T) []T {
	changed := slices.Clone(l)
	changed[i] = x
	return changed
}

func TestPrimeIsThePrimeOfTheDocument(t *testing.T) {
	if impl.Prime != 2147483647 {
		t.Errorf("Prime = %d", impl.Prime)
	}
}

func TestDigest(t *testing.T) {
	cases := []struct {
		l    []int
		want int
	}{
		{nil, 11}, {[]int{}, 11},
		{[]int{0}, 11000046}, {[]int{1}, 11000047}, {[]int{5}, 11000051}, {[]int{-1}, 11000045},
		{[]int{impl.Prime - 1}, 11000045}, {[]int{impl.Prime}, 11000046}, {[]int{impl.Prime + 1}, 11000047},
		{[]int{-impl.Prime + 1}, 11000047}, {[]int{-impl.Prime}, 11000046}, {[]int{-impl.Prime - 1}, 11000045},
		{[]int{2 * impl.Prime}, 11000046}, {[]int{2*impl.Prime + 1}, 11000047},
		{[]int{math.MaxInt}, 11000047}, {[]int{math.MinInt}, 11000044},
		{[]int{0, 0}, 667760217}, {[]int{1, 2}, 668760222}, {[]int{2, 1}, 669760224},
		{[]int{1, 2, 3}, 1460866530}, {[]int{5, 5, 5, 5}, 2100679842},
		{[]int{impl.Prime - 1, impl.Prime - 1}, 666760213},
		{[]int{math.MaxInt, math.MinInt, 0, -7}, 799605575},
		// The least and the greatest digest.
		{[]int{2136483601}, 0}, {[]int{2136483600}, impl.Prime - 1},
		{[]int{1, 2, 686617120}, 0}, {[]int{1, 2, 686617119}, impl.Prime - 1},
	}
	for _, c := range cases {
		if got := impl.Digest(c.l); got != c.want {
			t.Errorf("Digest(%v) = %d, want %d", c.l, got, c.want)
		}
	}
}

func TestDigestOfManyLists(t *testing.T) {
	for _, l := range anyLists() {
		if got, want := impl.Digest(l), wantDigest(l); got != want {
			t.Errorf("Digest(%v) = %d, want %d", l, got, want)
		}
	}
	long := []int{}
	for i := range 2000 {
		long = append(long, i*i*7919-1000000)
	}
	if got, want := impl.Digest(long), wantDigest(long); got != want {
		t.Errorf("Digest of 2000 integers = %d, want %d", got, want)
	}
}

func TestComputeMAC(t *testing.T) {
	cases := []struct {
		secret int
		l      []int
		want   int
	}{
		{0, nil, 667760217}, {1, nil, 668760221}, {1, []int{}, 668760221}, {7, nil, 674760245},
		{0, []int{0}, 32762367}, {0, []int{2}, 34762373}, {0, []int{1, 97}, 1977872927},
		{1, []int{0}, 1458866522}, {1, []int{2}, 1460866528}, {1, []int{1, 97}, 879951042},
		{2, []int{2}, 739487036}, {7, []int{2}, 1427556870}, {7, []int{1, 97}, 734870673},
		{7, []int{-1, impl.Prime, math.MaxInt}, 975335569},
		{impl.Prime - 1, nil, 666760213}, {impl.Prime - 1, []int{2}, 756141865},
		{impl.Prime, nil, 667760217}, {impl.Prime, []int{2}, 34762373}, {impl.Prime + 1, []int{1, 97}, 879951042},
		{-1, []int{2}, 756141865}, {-impl.Prime, []int{0}, 32762367},
		{math.MaxInt, []int{1, 97}, 879951042}, {math.MinInt, nil, 665760209}, {math.MinInt, []int{1, 97}, 2026233050},
		// Lists and secrets with the least and the greatest MAC.
		{1310415589, []int{0}, 0}, {288271861, []int{0}, impl.Prime - 1},
	}
	for _, c := range cases {
		if got := impl.ComputeMAC(c.secret, c.l); got != c.want {
			t.Errorf("ComputeMAC(%d, %v) = %d, want %d", c.secret, c.l, got, c.want)
		}
	}
}

func TestComputeMACIsTheDigestBetweenTwoSecrets(t *testing.T) {
	for i, l := range anyLists() {
		secret := anyIntegers[i%len(anyIntegers)]
		got := impl.ComputeMAC(secret, l)
		if want := wantMAC(secret, l); got != want {
			t.Errorf("ComputeMAC(%d, %v) = %d, want %d", secret, l, got, want)
		}
		if again := impl.Digest(slices.Concat([]int{secret}, l, []int{secret})); got != again {
			t.Errorf("ComputeMAC(%d, %v) = %d, but Digest with the secret at both ends is %d", secret, l, got, again)
		}
	}
}

// checkDependence changes x, of which mac is computed, to every other integer; only those that are equal modulo Prime leave the MAC as it is.
func checkDependence(t *testing.T, what string, x int, mac func(int) int) {
	t.Helper()
	others := slices.Clone(anyIntegers)
	for _, distance := range []int{1, 2, 100, 256, impl.Prime - 1, impl.Prime, impl.Prime + 1, 2 * impl.Prime, 1000 * impl.Prime} {
		others = append(others, x+distance, x-distance)
	}
	for _, y := range others {
		same := bigMod(x).Cmp(bigMod(y)) == 0
		if got := mac(x) == mac(y); got != same {
			t.Errorf("%s changed from %d to %d: the result stays the same: %v, want %v", what, x, y, got, same)
		}
	}
}

func TestAMACDependsOnEachInteger(t *testing.T) {
	lists := [][]int{
		{0}, {5}, {-1}, {impl.Prime}, {1, 2}, {3, 3, 3}, {0, 0, 0, 0, 0},
		{math.MinInt, math.MaxInt, impl.Prime - 1, impl.Prime, impl.Prime + 1, -impl.Prime, 0},
	}
	for _, l := range lists {
		for i, x := range l {
			checkDependence(t, "an integer of Digest", x, func(y int) int {
				return impl.Digest(with(l, i, y))
			})
			checkDependence(t, "an integer of ComputeMAC", x, func(y int) int {
				return impl.ComputeMAC(7, with(l, i, y))
			})
		}
	}
}

func TestAMACDependsOnTheSecret(t *testing.T) {
	for _, secret := range []int{0, 1, 7, impl.Prime - 1, impl.Prime, -1, math.MaxInt, math.MinInt} {
		for _, l := range [][]int{nil, {0}, {5}, {1, 97}, anyIntegers} {
			checkDependence(t, "the secret of ComputeMAC", secret, func(y int) int {
				return impl.ComputeMAC(y, l)
			})
		}
	}
}

func TestAMACDependsOnTheOrderAndTheLength(t *testing.T) {
	lists := [][]int{{}, {0}, {0, 0}, {0, 0, 0}, {1}, {0, 1}, {1, 0}, {2}, {1, 2}, {2, 1}, {1, 2, 3}, {3, 2, 1}, {2, 3, 1}, {-13}, {-13, -13}}
	for i, l := range lists {
		for _, other := range lists[i+1:] {
			if impl.Digest(l) == impl.Digest(other) {
				t.Errorf("Digest of %v and of %v are the same", l, other)
			}
			if impl.ComputeMAC(7, l) == impl.ComputeMAC(7, other) {
				t.Errorf("ComputeMAC(7, ...) of %v and of %v are the same", l, other)
			}
		}
	}
}

func TestValidSecret(t *testing.T) {
	cases := []struct {
		secret int
		want   bool
	}{
		{0, false}, {1, true}, {2, true}, {7, true}, {1000003, true},
		{impl.Prime - 2, true}, {impl.Prime - 1, true}, {impl.Prime, false}, {impl.Prime + 1, false}, {2*impl.Prime - 1, false}, {2*impl.Prime + 1, false},
		{-1, false}, {-2, false}, {-impl.Prime + 1, false}, {-impl.Prime, false}, {-impl.Prime - 1, false}, {-2*impl.Prime + 1, false},
		// Cut to 32 bits, these would be 1.
		{1<<32 + 1, false}, {-1<<32 + 1, false},
		{impl.MaxInt, false}, {math.MaxInt, false}, {math.MinInt, false}, {math.MinInt + 1, false},
	}
	for _, c := range cases {
		if got := impl.ValidSecret(c.secret); got != c.want {
			t.Errorf("ValidSecret(%d) = %v, want %v", c.secret, got, c.want)
		}
	}
}

func TestBytesToInts(t *testing.T) {
	cases := []struct {
		b    []byte
		want []int
	}{
		{nil, []int{0}}, {[]byte{}, []int{0}},
		{[]byte{0}, []int{1, 0}}, {[]byte{0, 0}, []int{2, 0, 0}},
		{[]byte("ab"), []int{2, 97, 98}},
		{[]byte{127, 128, 255}, []int{3, 127, 128, 255}},
		{[]byte("\u00e9"), []int{2, 195, 169}},
	}
	for _, c := range cases {
		if got := impl.BytesToInts(c.b); !slices.Equal(got, c.want) {
			t.Errorf("BytesToInts(%v) = %v, want %v", c.b, got, c.want)
		}
	}
	for length := range 600 {
		b := counting(length)
		got := impl.BytesToInts(b)
		if len(got) != length+1 || got[0] != length {
			t.Fatalf("BytesToInts of %d bytes has %d integers, the first of them %d", length, len(got), got[0])
		}
		for i, x := range b {
			if got[i+1] != int(x) {
				t.Fatalf("BytesToInts(%v)[%d] = %d, want %d", b, i+1, got[i+1], x)
			}
		}
	}
}

func TestEncrypt(t *testing.T) {
	cases := []struct {
		secret int
		b      []byte
		want   []byte
	}{
		{7, nil, nil}, {7, []byte{}, nil}, {0, nil, nil}, {-1, []byte{}, nil},
		{1, []byte{0}, []byte{90}}, {1, []byte{0, 0, 0, 0}, []byte{90, 157, 224, 35}},
		{1, []byte("hello"), []byte{194, 2, 76, 143, 213}},
		{7, []byte{0, 0, 0, 0}, []byte{128, 195, 6, 73}},
		{7, []byte("hello"), []byte{232, 40, 114, 181, 251}},
		{7, []byte{255, 255, 128, 127}, []byte{127, 194, 134, 200}},
		// The greatest byte that stays below 256, and the least one that wraps around.
		{7, []byte{127}, []byte{255}}, {7, []byte{128}, []byte{0}},
		{impl.Prime - 1, []byte("hello"), []byte{11, 75, 149, 216, 30}},
		// Secrets that are not valid encrypt as well.
		{0, []byte("hello"), []byte{103, 167, 241, 52, 122}}, {impl.Prime, []byte("hello"), []byte{103, 167, 241, 52, 122}},
		{-1, []byte("hello"), []byte{11, 75, 149, 216, 30}},
		{math.MaxInt, []byte("hello"), []byte{194, 2, 76, 143, 213}},
		{math.MinInt, []byte("hello"), []byte{175, 239, 57, 124, 194}},
	}
	for _, c := range cases {
		if got := impl.Encrypt(c.secret, c.b); !bytes.Equal(got, c.want) {
			t.Errorf("Encrypt(%d, %v) = %v, want %v", c.secret, c.b, got, c.want)
		}
		if got := impl.Decrypt(c.secret, c.want); !bytes.Equal(got, c.b) {
			t.Errorf("Decrypt(%d, %v) = %v, want %v", c.secret, c.want, got, c.b)
		}
	}
}

func TestEncryptedBytesAreDecrypted(t *testing.T) {
	for _, secret := range anyIntegers {
		for _, b := range anyBytes {
			sealed := impl.Encrypt(secret, b)
			if len(sealed) != len(b) {
				t.Errorf("Encrypt(%d, %v) has %d bytes", secret, b, len(sealed))
			}
			if got := impl.Decrypt(secret, sealed); !bytes.Equal(got, b) {
				t.Errorf("Decrypt(%d, Encrypt(%d, %v)) = %v", secret, secret, b, got)
			}
			if got := impl.Encrypt(secret, impl.Decrypt(secret, b)); !bytes.Equal(got, b) {
				t.Errorf("Encrypt(%d, Decrypt(%d, %v)) = %v", secret, secret, b, got)
			}
		}
	}
}

// Indices that are equal modulo 256 have the same shift until the MACs wrap around at Prime, so that these bytes must be many.
func TestEveryByteIsShiftedByTheMACOfItsIndex(t *testing.T) {
	b := counting(5000)
	for _, secret := range anyIntegers {
		sealed, opened := impl.Encrypt(secret, b), impl.Decrypt(secret, b)
		for i, x := range b {
			shift := wantMAC(secret, []int{i})
			if want := (int(x) + shift) % 256; int(sealed[i]) != want {
				t.Errorf("Encrypt with %d of the byte %d at %d = %d, want %d", secret, x, i, sealed[i], want)
			}
			if want := (int(x) + 256 - shift%256) % 256; int(opened[i]) != want {
				t.Errorf("Decrypt with %d of the byte %d at %d = %d, want %d", secret, x, i, opened[i], want)
			}
		}
	}
}

// One byte changed to each of the others changes the same byte of the result, and no other one.
func TestOneByteChanged(t *testing.T) {
	ciphers := []struct {
		name  string
		apply func(int, []byte) []byte
	}{{"Encrypt", impl.Encrypt}, {"Decrypt", impl.Decrypt}}
	for _, c := range ciphers {
		for _, b := range [][]byte{{0}, {255}, []byte("hello"), {0, 0, 255, 255, 128, 127}} {
			before := c.apply(7, b)
			for i, x := range b {
				for y := range 256 {
					after := c.apply(7, with(b, i, byte(y)))
					want := with(before, i, before[i]+byte(y)-x)
					if !bytes.Equal(after, want) {
						t.Errorf("%s(7, %v with %d at %d) = %v, want %v", c.name, b, y, i, after, want)
					}
				}
			}
		}
	}
}

func TestAnotherSecretDoesNotDecrypt(t *testing.T) {
	b := []byte("hello")
	for _, other := range []int{0, 1, 6, 8, -7, impl.Prime - 7, impl.Prime - 1, impl.Prime, 7 + 256, math.MaxInt, math.MinInt} {
		if got := impl.Decrypt(other, impl.Encrypt(7, b)); bytes.Equal(got, b) {
			t.Errorf("Decrypt(%d, Encrypt(7, %v)) = %v", other, b, got)
		}
	}
	for _, same := range []int{7 + impl.Prime, 7 - impl.Prime, 7 + 1000*impl.Prime} {
		if got := impl.Decrypt(same, impl.Encrypt(7, b)); !bytes.Equal(got, b) {
			t.Errorf("Decrypt(%d, Encrypt(7, %v)) = %v", same, b, got)
		}
	}
}

func TestDeriveSecret(t *testing.T) {
	cases := []struct {
		secret int
		s      string
		want   int
	}{
		{0, "", 32762367}, {1, "", 1458866522}, {7, "", 1425556864}, {impl.Prime - 1, "", 754141859},
		{1, "a", 879951042}, {7, "a", 734870673}, {7, "b", 735870676}, {7, "ab", 819203379}, {7, "\x00", 637870382},
		{0, "a", 1977872927}, {impl.Prime, "a", 1977872927}, {-1, "a", 928311165}, {impl.Prime - 1, "a", 928311165},
		{math.MaxInt, "ab", 1929220472}, {math.MinInt, "ab", 1410487195},
		// Its bytes count, not its runes; they need not be proper UTF-8.
		{7, "\x80", 765870766}, {7, "\xff", 892871147}, {7, "\u00e9", 1061973629}, {7, "\xc3\xa9", 1061973629},
		{math.MinInt, "\xff", 36749877},
		// MACs of 0 give 1, and so do MACs of 1; the greatest MAC is a valid secret.
		{1310415589, "", 1}, {1465621127, "a", 1}, {916074962, "ab", 1}, {922699571, "\xff", 1},
		{1310415589 - impl.Prime, "", 1}, {1465621127 + impl.Prime, "a", 1},
		{185075670, "", 1}, {576884971, "a", 1}, {1778320862, "ab", 1}, {33963415, "\xff", 1},
		{288271861, "", impl.Prime - 1}, {206873636, "a", impl.Prime - 1},
	}
	for _, c := range cases {
		if got := impl.DeriveSecret(c.secret, c.s); got != c.want {
			t.Errorf("DeriveSecret(%d, %q) = %d, want %d", c.secret, c.s, got, c.want)
		}
	}
	// Some of the cases above would be worth little if this did not hold.
	if mac := impl.ComputeMAC(1310415589, []int{0}); mac != 0 {
		t.Errorf("ComputeMAC(1310415589, [0]) = %d, want 0", mac)
	}
}

func TestDerivedSecretsAreValid(t *testing.T) {
	for _, secret := range anyIntegers {
		for _, b := range anyBytes {
			l := []int{len(b)}
			for _, x := range b {
				l = append(l, int(x))
			}
			// None of these MACs is 0; TestDeriveSecret has some that are.
			want := wantMAC(secret, l)
			if got := impl.DeriveSecret(secret, string(b)); got != want || !impl.ValidSecret(got) {
				t.Errorf("DeriveSecret(%d, %q) = %d, want %d", secret, b, got, want)
			}
		}
	}
}

func TestADerivedSecretDependsOnEachByte(t *testing.T) {
	for _, s := range []string{"a", "ab", "hello", "\x80\xff\x00"} {
		for i := range len(s) {
			for y := range 256 {
				other := string(with([]byte(s), i, byte(y)))
				if same := impl.DeriveSecret(7, other) == impl.DeriveSecret(7, s); same != (other == s) {
					t.Errorf("DeriveSecret(7, ...) of %q and of %q are the same: %v", s, other, same)
				}
			}
		}
	}
	for _, s := range []string{"b", "aa", "\x00", "a\x00", ""} {
		if impl.DeriveSecret(7, s) == impl.DeriveSecret(7, "a") {
			t.Errorf("DeriveSecret(7, ...) of %q and of \"a\" are the same", s)
		}
	}
}

func TestEqualInts(t *testing.T) {
	lists := [][]int{
		{}, {0}, {0, 0}, {1}, {-1}, {1, 2}, {2, 1}, {1, 2, 3}, {1, 2, 4}, {0, 2, 3}, {1, 0, 3}, {1, 2, 3, 0},
		// Equal modulo Prime, or in the lower 32 bits, is not equal.
		{impl.Prime}, {1 + impl.Prime}, {1 - impl.Prime}, {1 << 32}, {1<<32 + 1},
		{math.MaxInt}, {math.MinInt}, {math.MaxInt, math.MinInt},
	}
	for i, a := range lists {
		for j, b := range lists {
			if got := impl.EqualInts(a, slices.Clone(b)); got != (i == j) {
				t.Errorf("EqualInts(%v, %v) = %v", a, b, got)
			}
		}
	}
	for _, l := range [][]int{nil, {}} {
		if !impl.EqualInts(l, nil) || !impl.EqualInts(nil, l) || impl.EqualInts(l, []int{0}) || impl.EqualInts([]int{0}, l) {
			t.Errorf("EqualInts with %v", l)
		}
	}
	same := []int{1, 2, 3}
	if !impl.EqualInts(same, same) || !impl.EqualInts(same[:2], []int{1, 2}) || impl.EqualInts(same[:2], same) {
		t.Error("EqualInts of parts of one array")
	}
}

// What lies behind the length of a slice counts for nothing.
func TestSpareCapacityIsNotRead(t *testing.T) {
	l, b := []int{1, 2, 3}, []byte("abc")
	if got, want := impl.Digest(l[:2]), impl.Digest([]int{1, 2}); got != want {
		t.Errorf("Digest = %d, want %d", got, want)
	}
	if got, want := impl.ComputeMAC(7, l[:2]), impl.ComputeMAC(7, []int{1, 2}); got != want {
		t.Errorf("ComputeMAC = %d, want %d", got, want)
	}
	if got := impl.BytesToInts(b[:2]); !slices.Equal(got, []int{2, 97, 98}) {
		t.Errorf("BytesToInts = %v", got)
	}
	if got, want := impl.Encrypt(7, b[:2]), impl.Encrypt(7, []byte("ab")); !bytes.Equal(got, want) {
		t.Errorf("Encrypt = %v, want %v", got, want)
	}
	if got, want := impl.Decrypt(7, b[:2]), impl.Decrypt(7, []byte("ab")); !bytes.Equal(got, want) {
		t.Errorf("Decrypt = %v, want %v", got, want)
	}
}

func TestDigestsLeaveTheirArguments(t *testing.T) {
	for _, l := range [][]int{{}, {0}, {1, -2, impl.Prime, math.MinInt}} {
		g, other := guard(l), guard(l)
		impl.Digest(g.slice)
		g.check(t, "Digest")
		impl.ComputeMAC(7, g.slice)
		g.check(t, "ComputeMAC")
		impl.EqualInts(g.slice, other.slice)
		g.check(t, "EqualInts, first argument")
		other.check(t, "EqualInts, second argument")
	}
}

// checkNewMemory changes one of two results of f, which must show neither in the argument nor in the other result.
func checkNewMemory[T byte | int](t *testing.T, what string, l []byte, f func([]byte) []T) {
	t.Helper()
	g := guard(l)
	first, second := f(g.slice), f(g.slice)
	g.check(t, what)
	want := slices.Clone(second)
	scribble(first)
	g.check(t, what+", its result changed")
	if !slices.Equal(second, want) {
		t.Errorf("%s of %v: two results share memory", what, l)
	}
}

func TestSealedBytesAreNewMemory(t *testing.T) {
	for _, b := range anyBytes {
		checkNewMemory(t, "BytesToInts", b, impl.BytesToInts)
		for _, secret := range []int{0, 1, 7, impl.Prime - 1, impl.Prime, -1, math.MinInt} {
			checkNewMemory(t, "Encrypt", b, func(s []byte) []byte {
				return impl.Encrypt(secret, s)
			})
			checkNewMemory(t, "Decrypt", b, func(s []byte) []byte {
				return impl.Decrypt(secret, s)
			})
		}
	}
}
