package tests

import (
	"bytes"
	"fmt"
	"math"
	"slices"
	"strings"
	"testing"

	"loop.example/g00507/impl"
)

var (
	// Parts of valid data, at and beside their limits.
	contents   = [][]byte{nil, {}, []byte("x")[:0], {0}, {255}, {97}, []byte("hi"), {0, 0}, {1, 97}, {128, 0, 255}, counting(59), counting(60)}
	times      = []int{0, 1, 50, 127, 128, 129, 255, 256, 16383, 16384, 65536, impl.MaxTime - 1, impl.MaxTime}
	signatures = []int{0, 1, 127, 128, 255, 1 << 14, 1 << 21, 1 << 28, 1<<28 - 1, 1 << 30, impl.Prime - 2, impl.Prime - 1}
	dataNames  = []impl.Name{nameOf("a"), nameOf("a", "1"), nameOf("-"), nameOf("abcdefgh"), nameOf("a", "b", "c", "d", "e", "f")}
	keyNames   = append([]impl.Name{nameOf("key"), nameOf("a", "key")}, append(slices.Clone(emptyNames), dataNames...)...)

	// The same, of data that are not valid.
	notContents   = [][]byte{counting(61), counting(62), counting(127), counting(128), counting(256), counting(256 + 60), make([]byte, 61), make([]byte, 1000)}
	notTimes      = []int{-1, -2, -100000, -1 << 32, math.MinInt, impl.MaxTime + 1, impl.MaxTime + 2, 1 << 17, 1 << 32, 1<<32 + 1, impl.MaxInt, impl.MaxInt + 1, 1<<62 + 1, math.MaxInt}
	notSignatures = []int{-1, -2, -impl.Prime, -1 << 32, math.MinInt, impl.Prime, impl.Prime + 1, 1 << 31, 1<<31 + 1, 1 << 32, 1<<32 + 1, impl.MaxInt, impl.MaxInt + 1, 1<<62 + 1, math.MaxInt}

	validSecrets   = []int{1, 2, 5, 7, 255, 256, 1000003, 1 << 30, impl.Prime - 2, impl.Prime - 1}
	invalidSecrets = []int{0, -1, -2, -impl.Prime, -impl.Prime + 1, math.MinInt, math.MinInt + 1, impl.Prime, impl.Prime + 1, impl.Prime + 5, 2*impl.Prime + 5, 1 << 32, impl.MaxInt, math.MaxInt}
)

func dataOf(name string, content string, key string, until int, signature int) impl.Data {
	return impl.Data{Name: named(name), Content: []byte(content), KeyName: named(key), FreshUntil: until, Signature: signature}
}

// dataText is the same for equal data only.
func dataText(x impl.Data) string {
	return fmt.Sprintf("%q %v %q %d %d", x.Name.Parts, x.Content, x.KeyName.Parts, x.FreshUntil, x.Signature)
}

// validDatas are data with many combinations of what their fields may be.
func validDatas() []impl.Data {
	all := []impl.Data{}
	for i, n := range dataNames {
		for j, b := range contents {
			for k, key := range keyNames {
				for l, until := range times {
					signature := signatures[(i+j+k+l)%len(signatures)]
					all = append(all, impl.Data{Name: n, Content: b, KeyName: key, FreshUntil: until, Signature: signature})
				}
			}
		}
	}
	for _, signature := range signatures {
		for _, until := range times {
			all = append(all, dataOf("/a/1", "hi", "/a/key", until, signature))
		}
	}
	return all
}

// invalidDatas are data of which one field, or more of them, do not fit.
func invalidDatas() []impl.Data {
	all := []impl.Data{{}, dataOf("/", "", "/", -1, -1), dataOf("/A", "", "/A", impl.MaxTime+1, impl.Prime), {Name: nameOf("a"), Content: counting(61), FreshUntil: -1}}
	for _, n := range slices.Concat(emptyNames, notNames) {
		all = append(all, impl.Data{Name: n, Content: []byte("hi"), KeyName: nameOf("a", "key"), FreshUntil: 50, Signature: 17}, impl.Data{Name: n})
	}
	for _, n := range notNames {
		all = append(all, impl.Data{Name: nameOf("a", "1"), Content: []byte("hi"), KeyName: n, FreshUntil: 50, Signature: 17}, impl.Data{Name: nameOf("a"), KeyName: n})
	}
	for _, b := range notContents {
		all = append(all, impl.Data{Name: nameOf("a", "1"), Content: b, KeyName: nameOf("a", "key"), FreshUntil: 50, Signature: 17}, impl.Data{Name: nameOf("a"), Content: b})
	}
	for _, x := range notTimes {
		all = append(all, dataOf("/a/1", "hi", "/a/key", x, 17), dataOf("/a", "", "/", x, 0))
	}
	for _, x := range notSignatures {
		all = append(all, dataOf("/a/1", "hi", "/a/key", 50, x), dataOf("/a", "", "/", 0, x))
	}
	return all
}

func wantValidName(n impl.Name) bool {
	for _, part := range n.Parts {
		if !wantPart.MatchString(part) {
			return false
		}
	}
	return len(n.Parts) <= 6
}

func wantInts(b []byte) []int {
	l := []int{len(b)}
	for _, x := range b {
		l = append(l, int(x))
	}
	return l
}

// wantPortion follows the document's words without the program: an invalid name adds nothing to the empty slice.
func wantPortion(x impl.Data) []int {
	encoded := func(n impl.Name) []byte {
		if !wantValidName(n) {
			return nil
		}
		return wantEncodedName(n)
	}
	return slices.Concat(wantInts(encoded(x.Name)), wantInts(x.Content), wantInts(encoded(x.KeyName)), []int{x.FreshUntil})
}

// wantEncodedData encodes data whose numbers are not negative, whether they are valid or not.
func wantEncodedData(x impl.Data) []byte {
	content := append(wantVarint(len(x.Content)), x.Content...)
	return slices.Concat(wantEncodedName(x.Name), content, wantEncodedName(x.KeyName), wantVarint(x.FreshUntil), wantVarint(x.Signature))
}

func TestTheLimitsOfDataAreThoseOfTheDocument(t *testing.T) {
	if impl.MaxContent != 60 || impl.MaxTime != 100000 {
		t.Errorf("MaxContent = %d, MaxTime = %d", impl.MaxContent, impl.MaxTime)
	}
}

func TestValidData(t *testing.T) {
	for _, x := range validDatas() {
		if !impl.ValidData(x) {
			t.Errorf("ValidData(%s) = false", dataText(x))
		}
	}
	for _, x := range invalidDatas() {
		if impl.ValidData(x) {
			t.Errorf("ValidData(%s) = true", dataText(x))
		}
	}
}

func TestEachNumberOfData(t *testing.T) {
	for x := -300; x <= 300; x++ {
		for _, c := range []struct {
			until, signature int
			want             bool
		}{
			{x, 0, x >= 0}, {100000 + x, 0, x <= 0}, {0, x, x >= 0}, {0, 2147483646 + x, x <= 0},
		} {
			if got := impl.ValidData(dataOf("/a", "", "/", c.until, c.signature)); got != c.want {
				t.Errorf("ValidData with FreshUntil %d and Signature %d = %v", c.until, c.signature, got)
			}
		}
	}
}

// The name of the key may be empty, that of the data may not.
func TestEachNameOfData(t *testing.T) {
	for _, n := range slices.Concat(ascendingNames, emptyNames, notNames) {
		want := wantValidName(n)
		if got := impl.ValidData(impl.Data{Name: nameOf("a"), KeyName: n}); got != want {
			t.Errorf("ValidData with the KeyName %q = %v", n.Parts, got)
		}
		if got := impl.ValidData(impl.Data{Name: n, KeyName: nameOf("a")}); got != (want && len(n.Parts) > 0) {
			t.Errorf("ValidData with the name %q = %v", n.Parts, got)
		}
	}
}

func TestEachLengthOfAContent(t *testing.T) {
	for length := range 400 {
		for _, b := range [][]byte{make([]byte, length), counting(length), make([]byte, length, 500)} {
			x := impl.Data{Name: nameOf("a"), Content: b}
			if got, want := impl.ValidData(x), length <= 60; got != want {
				t.Errorf("ValidData with a content of %d bytes = %v", length, got)
			}
		}
	}
}

func TestSignedPortion(t *testing.T) {
	cases := []struct {
		x    impl.Data
		want []int
	}{
		{dataOf("/a/1", "hi", "/a/key", 50, 9), []int{5, 2, 1, 97, 1, 49, 2, 104, 105, 7, 2, 1, 97, 3, 107, 101, 121, 50}},
		{dataOf("/a", "", "/", 0, 0), []int{3, 1, 1, 97, 0, 1, 0, 0}},
		{impl.Data{Name: nameOf("a")}, []int{3, 1, 1, 97, 0, 1, 0, 0}},
		{dataOf("/a", "\x00", "/", 0, 7), []int{3, 1, 1, 97, 1, 0, 1, 0, 0}},
		{dataOf("/a", "\xff\x80", "/b", 100000, 7), []int{3, 1, 1, 97, 2, 255, 128, 3, 1, 1, 98, 100000}},
		// The empty name is encoded by one byte, an invalid name by none.
		{impl.Data{}, []int{1, 0, 0, 1, 0, 0}},
		{dataOf("/A", "", "/A", 0, 0), []int{0, 0, 0, 0}},
		{dataOf("/A", "hi", "/a", 3, 0), []int{0, 2, 104, 105, 3, 1, 1, 97, 3}},
		{dataOf("/a", "hi", "/A", 3, 0), []int{3, 1, 1, 97, 2, 104, 105, 0, 3}},
		{dataOf("/", "", "/a", -1, -1), []int{1, 0, 0, 3, 1, 1, 97, -1}},
		{dataOf("/", "", "/", math.MinInt, 1), []int{1, 0, 0, 1, 0, math.MinInt}},
		{dataOf("/", "", "/", math.MaxInt, 1), []int{1, 0, 0, 1, 0, math.MaxInt}},
	}
	for _, c := range cases {
		if got := impl.SignedPortion(c.x); !slices.Equal(got, c.want) {
			t.Errorf("SignedPortion(%s) = %v, want %v", dataText(c.x), got, c.want)
		}
	}
	for _, x := range slices.Concat(validDatas(), invalidDatas()) {
		if got, want := impl.SignedPortion(x), wantPortion(x); !slices.Equal(got, want) {
			t.Errorf("SignedPortion(%s) = %v, want %v", dataText(x), got, want)
		}
	}
}

// Some of the signatures are the least and the greatest that there are; some of the secrets are not valid.
func TestSignData(t *testing.T) {
	cases := []struct {
		secret int
		x      impl.Data
		want   int
	}{
		{5, dataOf("/a/1", "hi", "/a/key", 50, 0), 1657330497},
		{5, dataOf("/a/1", "", "/a/key", 50, 0), 322201569},
		{5, dataOf("/a/1", "hi", "/", 50, 0), 1687281929},
		{5, dataOf("/a", "", "/", 0, 0), 1085430481},
		{1, dataOf("/a", "\x00", "/", 0, 0), 2020272520},
		{impl.Prime - 1, dataOf("/a/b/c/d/e/f", strings.Repeat("\xff", 60), "/abcdefgh", 100000, 0), 1759144017},
		{16814, dataOf("/a/1", "hi", "/k", 98310, 3), 0},
		{12943, dataOf("/a/1", "hi", "/k", 68541, 3), impl.Prime - 1},
		{7, dataOf("/a", "\x00\xff\x80", "/a", 100000, 0), 452553268},
		{0, dataOf("/a", "x", "/k", 1, 0), 861524562}, {impl.Prime, dataOf("/a", "x", "/k", 1, 0), 861524562},
		{-1, dataOf("/a", "x", "/k", 1, 0), 1575859024},
		{5, dataOf("/a", "x", "/k", 1, 0), 1584819546}, {impl.Prime + 5, dataOf("/a", "x", "/k", 1, 0), 1584819546},
		{5, dataOf("/", "", "/", -1, -1), 1831340529},
	}
	for _, c := range cases {
		want := c.x
		want.Signature = c.want
		got := impl.SignData(c.secret, c.x)
		if dataText(got) != dataText(want) {
			t.Errorf("SignData(%d, %s) = %s, want %s", c.secret, dataText(c.x), dataText(got), dataText(want))
		}
		valid := c.secret >= 1 && c.secret < impl.Prime
		if verified := impl.VerifyData(c.secret, want); verified != valid {
			t.Errorf("VerifyData(%d, %s) = %v", c.secret, dataText(want), verified)
		}
	}
}

func allSecrets() []int {
	return slices.Concat(validSecrets, invalidSecrets)
}

// Data are signed with any secret, and whether they are valid or not; the signature that they have counts for nothing.
func TestSignDataOfAnyData(t *testing.T) {
	secrets := allSecrets()
	for i, x := range slices.Concat(validDatas(), invalidDatas()) {
		secret := secrets[i%len(secrets)]
		want := x
		want.Signature = wantMAC(secret, wantPortion(x))
		before := dataText(x)
		if got := impl.SignData(secret, x); dataText(got) != dataText(want) {
			t.Errorf("SignData(%d, %s) = %s, want %s", secret, before, dataText(got), dataText(want))
		}
		if dataText(x) != before {
			t.Errorf("SignData(%d, %s) changes its argument to %s", secret, before, dataText(x))
		}
	}
}

// Valid data are valid with their signature, too, also if the one before was not.
func TestSignedDataAreValid(t *testing.T) {
	for _, x := range validDatas() {
		for _, signature := range []int{x.Signature, -1, impl.Prime} {
			x.Signature = signature
			if signed := impl.SignData(5, x); !impl.ValidData(signed) || !impl.VerifyData(5, signed) {
				t.Errorf("SignData(5, %s) = %s", dataText(x), dataText(signed))
			}
		}
	}
}

// signedDatas are some data, signed with the secret.
func signedDatas(secret int) []impl.Data {
	all := []impl.Data{}
	for _, x := range []impl.Data{
		dataOf("/a/1", "hi", "/a/key", 50, 0), dataOf("/a", "", "/", 0, 0), {Name: nameOf("a"), FreshUntil: 1}, dataOf("/a", "\x00", "/a", 1, 0), dataOf("/abcdefgh/-", "aaaa", "/k", 128, 0),
		dataOf("/a/b/c/d/e/f", string(counting(60)), "/a/b/c/d/e/f", 100000, 0), dataOf("/a/b", "\x01\x01a", "/b/a", 97, 0),
	} {
		x.Signature = wantMAC(secret, wantPortion(x))
		all = append(all, x)
	}
	return all
}

// A secret verifies if it is valid, and the data are signed with it.
func TestVerifyDataWithEachSecret(t *testing.T) {
	for _, signing := range allSecrets() {
		for _, x := range signedDatas(signing) {
			for _, secret := range allSecrets() {
				same := bigMod(secret).Cmp(bigMod(signing)) == 0
				want := same && secret >= 1 && secret <= 2147483646
				if got := impl.VerifyData(secret, x); got != want {
					t.Errorf("VerifyData(%d, %s) = %v, signed with %d", secret, dataText(x), got, signing)
				}
			}
		}
	}
}

func TestVerifyDataOfAnotherSignature(t *testing.T) {
	signed := append(signedDatas(5), impl.SignData(16814, dataOf("/a/1", "hi", "/k", 98310, 0)), impl.SignData(12943, dataOf("/a/1", "hi", "/k", 68541, 0)))
	for i, x := range signed {
		secret := []int{5, 16814, 12943}[max(0, i-len(signed)+3)]
		if !impl.VerifyData(secret, x) {
			t.Errorf("VerifyData(%d, %s) = false", secret, dataText(x))
		}
		right := x.Signature
		others := slices.Concat(signatures, notSignatures, []int{right + 1, right - 1, right + 256, right ^ 1<<31, right + impl.Prime, right - impl.Prime, right + 1<<32, right - 1<<32, -right, -right - 1})
		for _, other := range others {
			x.Signature = other
			if got := impl.VerifyData(secret, x); got != (other == right) {
				t.Errorf("VerifyData(%d, %s) = %v, want the signature %d", secret, dataText(x), got, right)
			}
		}
	}
}

// checkForged changes the signed data, which then do not verify any longer.
func checkForged(t *testing.T, secret int, signed impl.Data, changed impl.Data) {
	t.Helper()
	if impl.VerifyData(secret, changed) {
		t.Errorf("VerifyData(%d, %s) = true, signed was %s", secret, dataText(changed), dataText(signed))
	}
}

func TestAChangedNameDoesNotVerify(t *testing.T) {
	names := slices.Concat(dataNames, keyNames, notNames, ascendingNames, []impl.Name{nameOf("a", "2"), nameOf("1", "a"), nameOf("a1"), nameOf("b"), nameOf("a", "1", "1"), nameOf("a", "kez")})
	for _, secret := range validSecrets {
		for _, x := range signedDatas(secret) {
			for _, n := range names {
				if changed := x; !slices.Equal(n.Parts, x.Name.Parts) {
					changed.Name = n
					checkForged(t, secret, x, changed)
				}
				// An invalid name and the empty one are signed differently as well.
				if changed := x; !slices.Equal(n.Parts, x.KeyName.Parts) {
					changed.KeyName = n
					checkForged(t, secret, x, changed)
				}
			}
		}
	}
}

func TestAChangedContentDoesNotVerify(t *testing.T) {
	for _, secret := range validSecrets {
		for _, x := range signedDatas(secret) {
			changed := x
			for i := range x.Content {
				for _, b := range []byte{0, 1, 97, 128, 255, x.Content[i] + 1, x.Content[i] - 1, x.Content[i] + 128} {
					changed.Content = with(x.Content, i, b)
					if b != x.Content[i] {
						checkForged(t, secret, x, changed)
					}
				}
				changed.Content = x.Content[:i]
				checkForged(t, secret, x, changed)
				changed.Content = x.Content[i+1:]
				checkForged(t, secret, x, changed)
			}
			for _, b := range slices.Concat(contents, notContents) {
				if changed.Content = b; !bytes.Equal(b, x.Content) {
					checkForged(t, secret, x, changed)
				}
			}
			for _, b := range []byte{0, 1, 97, 255} {
				changed.Content = append(slices.Clone(x.Content), b)
				checkForged(t, secret, x, changed)
				changed.Content = append([]byte{b}, x.Content...)
				checkForged(t, secret, x, changed)
			}
		}
	}
}

// Each byte of a content is replaced by each other one.
func TestEachByteOfAContentIsSigned(t *testing.T) {
	x := signedDatas(5)[5]
	for i := range x.Content {
		for b := range 256 {
			changed := x
			changed.Content = with(x.Content, i, byte(b))
			if got := impl.VerifyData(5, changed); got != (byte(b) == x.Content[i]) {
				t.Errorf("VerifyData = %v with the byte %d at %d, signed was %d", got, b, i, x.Content[i])
			}
		}
	}
}

// A MAC takes its integers modulo Prime, which tells all times of valid data apart.
func TestAChangedTimeDoesNotVerify(t *testing.T) {
	for _, secret := range validSecrets {
		for _, x := range signedDatas(secret) {
			for _, until := range slices.Concat(times, []int{x.FreshUntil - 1, x.FreshUntil + 1, x.FreshUntil + 256, x.FreshUntil + impl.Prime, x.FreshUntil - impl.Prime, -1, impl.MaxTime + 1, math.MaxInt, math.MinInt}) {
				changed := x
				changed.FreshUntil = until
				same := bigMod(until).Cmp(bigMod(x.FreshUntil)) == 0
				if got := impl.VerifyData(secret, changed); got != same {
					t.Errorf("VerifyData(%d, %s) = %v, signed was %s", secret, dataText(changed), got, dataText(x))
				}
			}
		}
	}
	x := signedDatas(5)[0]
	for until := -1000; until <= impl.MaxTime+1000; until += 7 {
		changed := x
		changed.FreshUntil = until
		if got := impl.VerifyData(5, changed); got != (until == 50) {
			t.Errorf("VerifyData = %v with FreshUntil %d, signed was 50", got, until)
		}
	}
}

// What is moved from one field to another is signed in another place.
func TestMovedFieldsDoNotVerify(t *testing.T) {
	x := impl.SignData(5, dataOf("/a", "\x01\x01b", "/b", 3, 0))
	for _, changed := range []impl.Data{
		dataOf("/b", "\x01\x01b", "/a", 3, x.Signature), dataOf("/a", "\x01\x01a", "/b", 3, x.Signature),
		dataOf("/a/b", "", "/b", 3, x.Signature), dataOf("/a", "", "/b/b", 3, x.Signature), dataOf("/a", "b", "/b", 3, x.Signature),
		dataOf("/a", "\x01\x01b", "/", 3, x.Signature), dataOf("/a", "\x01\x01b\x03\x01\x01b", "/", 3, x.Signature), dataOf("/a", "", "/b", 3, x.Signature),
	} {
		checkForged(t, 5, x, changed)
	}
}

// Whether a secret verifies depends on what was signed only, also of data that are not valid.
func TestVerifyDataOfAnyData(t *testing.T) {
	secrets := allSecrets()
	for i, x := range slices.Concat(validDatas(), invalidDatas()) {
		secret := secrets[i%len(secrets)]
		if impl.VerifyData(secret, x) {
			t.Errorf("VerifyData(%d, %s) = true", secret, dataText(x))
		}
		x.Signature = wantMAC(secret, wantPortion(x))
		if got, want := impl.VerifyData(secret, x), secret >= 1 && secret <= 2147483646; got != want {
			t.Errorf("VerifyData(%d, %s) = %v", secret, dataText(x), got)
		}
	}
}

// A content without bytes is the same in each form of it.
func TestEmptyContents(t *testing.T) {
	for _, b := range [][]byte{nil, {}, []byte("hi")[:0], make([]byte, 0, 100)} {
		x := impl.Data{Name: nameOf("a", "1"), Content: b, KeyName: nameOf("a", "key"), FreshUntil: 50, Signature: 322201569}
		if !impl.ValidData(x) || !impl.VerifyData(5, x) || impl.SignData(5, x).Signature != 322201569 || len(impl.SignData(5, x).Content) != 0 {
			t.Errorf("the content %#v: ValidData, VerifyData or SignData = %s", b, dataText(impl.SignData(5, x)))
		}
		if got := impl.SignedPortion(x); !slices.Equal(got, []int{5, 2, 1, 97, 1, 49, 0, 7, 2, 1, 97, 3, 107, 101, 121, 50}) {
			t.Errorf("the content %#v: SignedPortion = %v", b, got)
		}
		encoded := impl.EncodeData(x)
		if !bytes.Equal(encoded, []byte{2, 1, 97, 1, 49, 0, 2, 1, 97, 3, 107, 101, 121, 50, 225, 207, 209, 153, 1}) {
			t.Errorf("the content %#v: EncodeData = %v", b, encoded)
		}
		checkData(t, encoded, x)
		for _, other := range contents {
			y := x
			y.Content = other
			if got := impl.EqualData(x, y); got != (len(other) == 0) || impl.EqualData(y, x) != got {
				t.Errorf("EqualData of data with the contents %#v and %#v = %v", b, other, got)
			}
			if got := impl.VerifyData(5, y); got != (len(other) == 0) {
				t.Errorf("VerifyData with the content %#v instead of %#v = %v", other, b, got)
			}
		}
	}
}

func TestEncodeData(t *testing.T) {
	cases := []struct {
		x    impl.Data
		want []byte
	}{
		{dataOf("/a/1", "hi", "/a/key", 50, 7), []byte{2, 1, 97, 1, 49, 2, 104, 105, 2, 1, 97, 3, 107, 101, 121, 50, 7}},
		{dataOf("/a", "", "/", 0, 0), []byte{1, 1, 97, 0, 0, 0, 0}},
		{impl.Data{Name: nameOf("a")}, []byte{1, 1, 97, 0, 0, 0, 0}},
		{dataOf("/a", "\x00", "/", 0, 1), []byte{1, 1, 97, 1, 0, 0, 0, 1}},
		{dataOf("/a", "\xff\x80", "/b", 127, 128), []byte{1, 1, 97, 2, 255, 128, 1, 1, 98, 127, 128, 1}},
		{dataOf("/b", "", "/a", 1, 2), []byte{1, 1, 98, 0, 1, 1, 97, 1, 2}},
		{dataOf("/a", "", "/b", 2, 1), []byte{1, 1, 97, 0, 1, 1, 98, 2, 1}},
		{dataOf("/a", "a", "/", 100000, 2147483646), []byte{1, 1, 97, 1, 97, 0, 160, 141, 6, 254, 255, 255, 255, 7}},
		{dataOf("/a", strings.Repeat("z", 60), "/", 300, 0), slices.Concat([]byte{1, 1, 97, 60}, bytes.Repeat([]byte("z"), 60), []byte{0, 172, 2, 0})},
	}
	for _, c := range cases {
		if got := impl.EncodeData(c.x); !bytes.Equal(got, c.want) {
			t.Errorf("EncodeData(%s) = %v, want %v", dataText(c.x), got, c.want)
		}
		checkData(t, c.want, c.x)
	}
}

func TestEncodeDataOfInvalidData(t *testing.T) {
	for _, x := range invalidDatas() {
		if got := impl.EncodeData(x); len(got) != 0 {
			t.Errorf("EncodeData(%s) = %v, want none", dataText(x), got)
		}
	}
}

func checkData(t *testing.T, b []byte, want impl.Data) {
	t.Helper()
	if got, ok := impl.DecodeData(b); dataText(got) != dataText(want) || !ok {
		t.Errorf("DecodeData(%v) = %s, %v, want %s, true", b, dataText(got), ok, dataText(want))
	}
}

func checkNoData(t *testing.T, b []byte) {
	t.Helper()
	if got, ok := impl.DecodeData(b); dataText(got) != dataText(impl.Data{}) || ok {
		t.Errorf("DecodeData(%v) = %s, %v, want the zero Data, false", b, dataText(got), ok)
	}
}

func TestDataAreDecodedFromTheirEncodings(t *testing.T) {
	encodings := map[string]string{}
	for _, x := range validDatas() {
		b := impl.EncodeData(x)
		if want := wantEncodedData(x); !bytes.Equal(b, want) {
			t.Errorf("EncodeData(%s) = %v, want %v", dataText(x), b, want)
		}
		checkData(t, b, x)
		if other, ok := encodings[string(b)]; ok && other != dataText(x) {
			t.Errorf("%s and %s have the same encoding", other, dataText(x))
		}
		encodings[string(b)] = dataText(x)
	}
}

// Signed data verify after they were sent, and each content of up to 60 bytes is sent.
func TestSignedDataAreDecoded(t *testing.T) {
	for length := range 64 {
		x := impl.SignData(5, impl.Data{Name: nameOf("a", "1"), Content: counting(length), KeyName: nameOf("key"), FreshUntil: 100 * length})
		if length > 60 {
			checkNoData(t, impl.EncodeData(x))
			checkNoData(t, wantEncodedData(x))
			continue
		}
		checkData(t, impl.EncodeData(x), x)
		if got, _ := impl.DecodeData(impl.EncodeData(x)); !impl.VerifyData(5, got) || impl.VerifyData(6, got) || !impl.EqualData(got, x) {
			t.Errorf("DecodeData of EncodeData(%s) = %s", dataText(x), dataText(got))
		}
	}
}

// Encodings of data that are not valid are complete otherwise.
func TestDecodeDataOfInvalidData(t *testing.T) {
	for _, x := range invalidDatas() {
		if x.FreshUntil >= 0 && x.Signature >= 0 {
			checkNoData(t, wantEncodedData(x))
		}
	}
}

func TestEachNumberOfDataIsDecoded(t *testing.T) {
	for until := range impl.MaxTime + 300 {
		b := slices.Concat([]byte{1, 1, 97, 0, 0}, wantVarint(until), []byte{5})
		if until <= impl.MaxTime {
			checkData(t, b, dataOf("/a", "", "/", until, 5))
		} else {
			checkNoData(t, b)
		}
	}
	for i := range 10000 {
		for _, signature := range []int{i, impl.Prime - 5000 + i, i * 214800} {
			b := slices.Concat([]byte{1, 1, 97, 0, 0, 5}, wantVarint(signature))
			if signature < impl.Prime {
				checkData(t, b, dataOf("/a", "", "/", 5, signature))
			} else {
				checkNoData(t, b)
			}
		}
	}
}

func TestDecodeDataRejects(t *testing.T) {
	// What may follow the name of data, and what may follow their content.
	contentOn, keyOn := []byte{2, 104, 105, 1, 1, 107, 50, 7}, []byte{50, 7}
	for _, b := range notNameEncodings {
		checkNoData(t, slices.Concat(b, contentOn))
		checkNoData(t, slices.Concat([]byte{1, 1, 97, 2, 104, 105}, b, keyOn))
		checkNoData(t, slices.Concat([]byte{1, 1, 97, 0}, b, keyOn))
	}
	for _, b := range [][]byte{
		nil, {}, {0}, {1}, {7}, {0, 0, 0, 0}, {0, 0, 0, 0, 0},
		// The empty name.
		{0, 2, 104, 105, 1, 1, 107, 50, 7}, {0, 0, 0, 50, 7}, {0, 0, 1, 1, 97, 50, 7},
		// Too few fields, or too many.
		{1, 1, 97}, {1, 1, 97, 0}, {1, 1, 97, 0, 0}, {1, 1, 97, 0, 0, 0}, {1, 1, 97, 0, 0, 0, 0, 0}, {1, 1, 97, 0, 0, 50, 7, 1}, {9, 1, 1, 97, 0, 0, 50, 7}, {0, 1, 1, 97, 0, 0, 50, 7},
		// A content of another length than it says.
		{1, 1, 97, 3, 104, 105, 1, 1, 107, 50, 7}, {1, 1, 97, 1, 104, 105, 1, 1, 107, 50, 7}, {1, 1, 97, 2, 104, 105}, {1, 1, 97, 3, 104, 105}, {1, 1, 97, 60, 104, 105, 0, 50, 7}, {1, 1, 97, 4, 0, 50, 7},
		// A content whose length is too great, is not complete, or is encoded in another way.
		{1, 1, 97, 61, 0, 0, 50, 7}, {1, 1, 97, 127, 0, 0, 50, 7}, {1, 1, 97, 128}, {1, 1, 97, 130, 0, 104, 105, 1, 1, 107, 50, 7}, {1, 1, 97, 128, 0, 0, 50, 7}, {1, 1, 97, 188, 0},
		{1, 1, 97, 128, 160, 148, 165, 141, 29, 0, 50, 7}, {1, 1, 97, 255, 255, 255, 255, 255, 255, 0, 50, 7}, {1, 1, 97, 128, 128, 128, 128, 128, 128, 0, 50, 7},
		// Names that are encoded in another way.
		{129, 0, 1, 97, 0, 0, 50, 7}, {1, 129, 0, 97, 0, 0, 50, 7}, {1, 1, 97, 0, 128, 0, 50, 7}, {1, 1, 97, 0, 129, 0, 1, 107, 50, 7}, {1, 1, 97, 0, 1, 129, 0, 107, 50, 7},
		// Numbers that are encoded in another way, or are not complete.
		{1, 1, 97, 0, 0, 178, 0, 7}, {1, 1, 97, 0, 0, 50, 135, 0}, {1, 1, 97, 0, 0, 128, 0, 7}, {1, 1, 97, 0, 0, 50, 128, 0}, {1, 1, 97, 0, 0, 178, 128, 0, 7},
		{1, 1, 97, 0, 0, 50, 135}, {1, 1, 97, 0, 0, 178}, {1, 1, 97, 0, 0, 50, 255, 255, 255, 255, 255, 255},
		// Numbers that exceed their limits by one, or more: MaxTime + 1, Prime, and the greatest integer.
		{1, 1, 97, 0, 0, 161, 141, 6, 7}, {1, 1, 97, 0, 0, 50, 255, 255, 255, 255, 7}, {1, 1, 97, 0, 0, 128, 160, 148, 165, 141, 29, 7}, {1, 1, 97, 0, 0, 50, 128, 160, 148, 165, 141, 29},
	} {
		checkNoData(t, b)
	}
}

// An encoding that is cut short, or has a byte left over, is that of no data.
func TestDecodeDataOfAPart(t *testing.T) {
	for _, x := range slices.Concat(signedDatas(5), signedDatas(impl.Prime-1), []impl.Data{dataOf("/a", "", "/", 0, 0), dataOf("/a", "hi", "/a", 100000, impl.Prime-1)}) {
		b := impl.EncodeData(x)
		checkData(t, b, x)
		for end := range b {
			checkNoData(t, b[:end])
			checkNoData(t, slices.Clone(b[:end]))
		}
		for y := range 256 {
			checkNoData(t, append(slices.Clone(b), byte(y)))
			checkNoData(t, append(slices.Clone(b), byte(y), 0))
		}
		checkNoData(t, append(slices.Clone(b), b...))
	}
}

// modelNumber reads an integer from the front of b without the program, and returns how many bytes it has, or 0 if there is none.
func modelNumber(b []byte) (int, int) {
	for length := 1; length <= min(6, len(b)); length++ {
		if b[length-1] >= 128 {
			continue
		}
		n := 0
		for i := length - 1; i >= 0; i-- {
			n = n*128 + int(b[i]%128)
		}
		if n <= 1000000000000 && bytes.Equal(wantVarint(n), b[:length]) {
			return n, length
		}
		return 0, 0
	}
	return 0, 0
}

// model8 decodes data without the program.
func model8(b []byte) (impl.Data, bool) {
	name, length := model7(b)
	if length == 0 || len(name) == 0 {
		return impl.Data{}, false
	}
	b = b[length:]
	if len(b) == 0 || b[0] > 60 || len(b) <= int(b[0]) {
		return impl.Data{}, false
	}
	content, b := b[1:1+b[0]], b[1+b[0]:]
	key, length := model7(b)
	if length == 0 {
		return impl.Data{}, false
	}
	b = b[length:]
	until, length := modelNumber(b)
	signature, rest := modelNumber(b[length:])
	if length == 0 || rest == 0 || length+rest != len(b) || until > 100000 || signature > 2147483646 {
		return impl.Data{}, false
	}
	return impl.Data{Name: nameOf(name...), Content: content, KeyName: nameOf(key...), FreshUntil: until, Signature: signature}, true
}

func checkDecodedData(t *testing.T, b []byte) bool {
	t.Helper()
	want, ok := model8(b)
	if !ok {
		checkNoData(t, b)
		return false
	}
	checkData(t, b, want)
	if again := impl.EncodeData(want); !bytes.Equal(again, b) {
		t.Errorf("EncodeData(%s) = %v, want %v", dataText(want), again, b)
	}
	return true
}

func TestDecodeDataOfAllShortBytes(t *testing.T) {
	found := 0
	for _, words := range sequences([]string{"\x00", "\x01", "\x02", "a", "A", "\x7f", "\x80", "\xff"}, 6) {
		for _, before := range []string{"", "\x01\x01a"} {
			if checkDecodedData(t, []byte(before+strings.Join(words, ""))) {
				found++
			}
		}
		if t.Failed() {
			return
		}
	}
	if found < 1000 {
		t.Errorf("only %d data are among the bytes", found)
	}
}

// One byte of an encoding is replaced by each other one.
func TestDecodeDataOfAChangedByte(t *testing.T) {
	for _, x := range signedDatas(7) {
		b := impl.EncodeData(x)
		for at := range b {
			for y := range 256 {
				changed := with(b, at, byte(y))
				checkDecodedData(t, changed)
				got, ok := impl.DecodeData(changed)
				same := byte(y) == b[at]
				if ok && impl.VerifyData(7, got) != same || same && !ok {
					t.Errorf("DecodeData(%v) = %s, %v, which verifies: %v", changed, dataText(got), ok, impl.VerifyData(7, got))
				}
			}
		}
	}
}

func TestFreshAt(t *testing.T) {
	all := slices.Concat(anyIntegers, times, notTimes, []int{49, 51, 99, 100, 101})
	for _, until := range all {
		x := dataOf("/a/1", "hi", "/a/key", until, 7)
		for _, now := range all {
			if got := impl.FreshAt(x, now); got != (now <= until) {
				t.Errorf("FreshAt(%s, %d) = %v", dataText(x), now, got)
			}
		}
		if !impl.FreshAt(x, until) || until > math.MinInt && !impl.FreshAt(x, until-1) || until < math.MaxInt && impl.FreshAt(x, until+1) {
			t.Errorf("FreshAt of %s at FreshUntil, one before it, or one behind it", dataText(x))
		}
	}
	// No other field matters.
	for _, x := range slices.Concat(validDatas(), invalidDatas()) {
		for _, now := range []int{-1, 0, 1, 50, 51, impl.MaxTime, impl.MaxTime + 1} {
			if got := impl.FreshAt(x, now); got != (now <= x.FreshUntil) {
				t.Errorf("FreshAt(%s, %d) = %v", dataText(x), now, got)
			}
		}
	}
}

func TestEqualData(t *testing.T) {
	all := slices.Concat(invalidDatas(), signedDatas(5), []impl.Data{
		dataOf("/a/1", "hi", "/a/key", 50, 7),
		// Each differs from the first one in one field only.
		dataOf("/a/2", "hi", "/a/key", 50, 7), dataOf("/a", "hi", "/a/key", 50, 7), dataOf("/a/1/1", "hi", "/a/key", 50, 7), dataOf("/a1", "hi", "/a/key", 50, 7), dataOf("/", "hi", "/a/key", 50, 7),
		dataOf("/a/1", "ho", "/a/key", 50, 7), dataOf("/a/1", "h", "/a/key", 50, 7), dataOf("/a/1", "hi\x00", "/a/key", 50, 7), dataOf("/a/1", "ih", "/a/key", 50, 7), dataOf("/a/1", "", "/a/key", 50, 7),
		dataOf("/a/1", "hi", "/a/kez", 50, 7), dataOf("/a/1", "hi", "/a", 50, 7), dataOf("/a/1", "hi", "/a/key/1", 50, 7), dataOf("/a/1", "hi", "/", 50, 7), dataOf("/a/1", "hi", "/A", 50, 7),
		dataOf("/a/1", "hi", "/a/key", 49, 7), dataOf("/a/1", "hi", "/a/key", 51, 7), dataOf("/a/1", "hi", "/a/key", 50+1<<32, 7), dataOf("/a/1", "hi", "/a/key", -50, 7),
		dataOf("/a/1", "hi", "/a/key", 50, 6), dataOf("/a/1", "hi", "/a/key", 50, 8), dataOf("/a/1", "hi", "/a/key", 50, 7+impl.Prime), dataOf("/a/1", "hi", "/a/key", 50, 7+1<<32),
		// The same in other fields.
		dataOf("/a/key", "hi", "/a/1", 50, 7), dataOf("/a/1", "hi", "/a/key", 7, 50), dataOf("/a/1", "/a/key", "/hi", 50, 7),
	})
	for _, a := range all {
		for _, b := range all {
			other := b
			other.Name = nameOf(append(make([]string, 0, 9), b.Name.Parts...)...)
			other.Content = append(make([]byte, 0, 99), b.Content...)
			other.KeyName = nameOf(append(make([]string, 0, 9), b.KeyName.Parts...)...)
			want := dataText(a) == dataText(b)
			if got := impl.EqualData(a, other); got != want {
				t.Errorf("EqualData(%s, %s) = %v", dataText(a), dataText(b), got)
			}
		}
	}
	for _, n := range emptyNames {
		for _, m := range emptyNames {
			a, b := impl.Data{Name: n, Content: []byte{}, KeyName: m}, impl.Data{Name: m, KeyName: n}
			if !impl.EqualData(a, b) || !impl.EqualData(b, a) {
				t.Errorf("EqualData with the empty names %#v and %#v = false", n.Parts, m.Parts)
			}
		}
	}
}

func TestEqualDataOfAnyNumbers(t *testing.T) {
	for _, x := range anyIntegers {
		for _, y := range anyIntegers {
			if got, want := impl.EqualData(dataOf("/a", "", "/", x, 1), dataOf("/a", "", "/", y, 1)), x == y; got != want {
				t.Errorf("EqualData with FreshUntil %d and %d = %v", x, y, got)
			}
			if got, want := impl.EqualData(dataOf("/a", "", "/", 1, x), dataOf("/a", "", "/", 1, y)), x == y; got != want {
				t.Errorf("EqualData with Signature %d and %d = %v", x, y, got)
			}
		}
	}
}

// Guarded data have spare capacity behind the parts of their names and behind their content.
type guardedData struct {
	data      impl.Data
	name, key guarded[string]
	content   guarded[byte]
}

func guardData(x impl.Data) guardedData {
	g := guardedData{data: x, name: guardWith(x.Name.Parts, spareParts), key: guardWith(x.KeyName.Parts, spareParts), content: guard(x.Content)}
	g.data.Name.Parts, g.data.Content, g.data.KeyName.Parts = g.name.slice, g.content.slice, g.key.slice
	return g
}

func (g guardedData) check(t *testing.T, what string) {
	t.Helper()
	g.name.check(t, what+", the name")
	g.content.check(t, what+", the content")
	g.key.check(t, what+", the name of the key")
}

// scribbleData changes all memory of data.
func scribbleData(x impl.Data) {
	scribbleParts(x.Name)
	scribble(x.Content)
	scribbleParts(x.KeyName)
}

// memoryDatas are data of all lengths of their parts, valid or not.
func memoryDatas() []impl.Data {
	all := slices.Concat(invalidDatas(), signedDatas(5))
	for i, n := range memoryNames {
		for _, b := range contents {
			all = append(all, impl.Data{Name: n, Content: b, KeyName: memoryNames[len(memoryNames)-1-i], FreshUntil: 300, Signature: 300000})
		}
	}
	return all
}

func TestDataAreLeftAsTheyAre(t *testing.T) {
	for _, x := range memoryDatas() {
		a, b := guardData(x), guardData(x)
		calls := []struct {
			what string
			call func()
		}{
			{"ValidData", func() { impl.ValidData(a.data) }},
			{"SignedPortion", func() { impl.SignedPortion(a.data) }},
			{"SignData", func() { impl.SignData(5, a.data) }},
			{"SignData without a valid secret", func() { impl.SignData(0, a.data) }},
			{"VerifyData", func() { impl.VerifyData(5, a.data) }},
			{"EncodeData", func() { impl.EncodeData(a.data) }},
			{"FreshAt", func() { impl.FreshAt(a.data, 50) }},
			{"EqualData", func() { impl.EqualData(a.data, b.data) }},
		}
		for _, c := range calls {
			c.call()
			a.check(t, c.what)
			b.check(t, c.what+", the second data")
			if dataText(a.data) != dataText(x) {
				t.Errorf("%s changes %s to %s", c.what, dataText(x), dataText(a.data))
			}
		}
	}
}

func TestSignedDataAreNewMemory(t *testing.T) {
	for _, x := range memoryDatas() {
		for _, secret := range []int{5, 0} {
			g := guardData(x)
			first, second := impl.SignData(secret, g.data), impl.SignData(secret, g.data)
			want := dataText(second)
			scribbleData(first)
			g.check(t, "SignData, its result changed")
			scribbleData(g.data)
			if dataText(second) != want {
				t.Errorf("SignData(%d, %s) shares memory with its argument or with another result", secret, dataText(x))
			}
		}
	}
}

// The two names of a result are apart, also where those of the argument are parts of the same array.
func TestNamesOfSignedDataAreApart(t *testing.T) {
	array := []string{"a", "b", "c", "d", "e", "f", "g", "h"}
	for _, x := range []impl.Data{
		{Name: nameOf(array[:2]...), KeyName: nameOf(array[:2]...)}, {Name: nameOf(array[:1]...), KeyName: nameOf(array[1:3]...)}, {Name: nameOf(array[:0]...), KeyName: nameOf(array[:7]...)}, {Name: nameOf(array[:6]...), KeyName: nameOf(array[3:4]...)},
	} {
		for _, secret := range []int{5, 0} {
			signed := impl.SignData(secret, x)
			key := slices.Clone(signed.KeyName.Parts)
			scribbleParts(signed.Name)
			if !slices.Equal(signed.KeyName.Parts, key) {
				t.Errorf("SignData(%d, %s): the names share memory", secret, dataText(x))
			}
		}
	}
	if !slices.Equal(array, []string{"a", "b", "c", "d", "e", "f", "g", "h"}) {
		t.Errorf("the array of the names is %q", array)
	}
}

func TestPortionsAndEncodingsOfDataAreNewMemory(t *testing.T) {
	for _, x := range memoryDatas() {
		checkNewMemory(t, "SignedPortion", x.Content, func(b []byte) []int {
			x.Content = b
			return impl.SignedPortion(x)
		})
		checkNewMemory(t, "EncodeData", x.Content, func(b []byte) []byte {
			x.Content = b
			return impl.EncodeData(x)
		})
	}
}

// Data that were decoded stay as they are when the bytes that they were decoded from change, and the other way round.
func TestDecodedDataAreNewMemory(t *testing.T) {
	for _, x := range memoryDatas() {
		if !impl.ValidData(x) {
			continue
		}
		b := guard(impl.EncodeData(x))
		first, _ := impl.DecodeData(b.slice)
		second, _ := impl.DecodeData(b.slice)
		b.check(t, "DecodeData")
		scribbleData(first)
		b.check(t, "DecodeData, its result changed")
		scribble(b.slice)
		if dataText(second) != dataText(x) {
			t.Errorf("DecodeData of the encoding of %s shares memory: %s", dataText(x), dataText(second))
		}
		// The content follows the name in the encoding, and must not be extended in place.
		third, _ := impl.DecodeData(impl.EncodeData(x))
		key := slices.Clone(third.KeyName.Parts)
		scribbleParts(third.Name)
		scribble(third.Content)
		if !slices.Equal(third.KeyName.Parts, key) {
			t.Errorf("DecodeData of the encoding of %s: its fields share memory", dataText(x))
		}
	}
}

func TestRejectedEncodingsAreLeftAsTheyAre(t *testing.T) {
	for _, x := range signedDatas(5) {
		encoded := impl.EncodeData(x)
		for end := range encoded {
			b := guard(encoded[:end])
			checkNoData(t, b.slice)
			b.check(t, "DecodeData of a part")
		}
	}
}

// What lies behind the parts of a name, behind a content, or behind the bytes of an encoding, counts for nothing.
func TestSpareMemoryOfDataIsNotRead(t *testing.T) {
	x := impl.Data{Name: impl.Name{Parts: []string{"a", "b", "C"}[:1]}, Content: []byte("hi")[:1], KeyName: impl.Name{Parts: []string{"k", "", "C"}[:1]}, FreshUntil: 3, Signature: 4}
	same := dataOf("/a", "h", "/k", 3, 4)
	if !impl.ValidData(x) || !impl.EqualData(x, same) || !impl.EqualData(same, x) || impl.EqualData(x, dataOf("/a", "hi", "/k", 3, 4)) {
		t.Error("ValidData or EqualData")
	}
	if got := impl.SignedPortion(x); !slices.Equal(got, []int{3, 1, 1, 97, 1, 104, 3, 1, 1, 107, 3}) {
		t.Errorf("SignedPortion = %v", got)
	}
	if got, want := impl.SignData(5, x), impl.SignData(5, same); dataText(got) != dataText(want) || !impl.VerifyData(5, got) {
		t.Errorf("SignData = %s, want %s", dataText(got), dataText(want))
	}
	if got := impl.EncodeData(x); !bytes.Equal(got, []byte{1, 1, 97, 1, 104, 1, 1, 107, 3, 4}) {
		t.Errorf("EncodeData = %v", got)
	}
	x.Content = make([]byte, 100)[:60]
	if !impl.ValidData(x) {
		t.Error("ValidData of a content of 60 bytes = false")
	}
	b := []byte{1, 1, 97, 1, 104, 1, 1, 107, 3, 4, 5, 6}
	checkData(t, b[:10], same)
	checkNoData(t, b[:9])
	checkNoData(t, b[:11])
}
