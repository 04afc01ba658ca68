package tests

import (
	"fmt"
	"math"
	"slices"
	"strings"
	"testing"

	"loop.example/g00507/impl"
)

func keyOf(s string, secret int) impl.Key {
	return impl.Key{Name: named(s), Secret: secret}
}

// keysOf makes keys, valid or not, of the texts of their names, with the secrets 101, 102 and so on.
func keysOf(texts ...string) []impl.Key {
	l := []impl.Key{}
	for i, s := range texts {
		l = append(l, keyOf(s, 101+i))
	}
	return l
}

// secretKeys makes keys, valid or not, of their secrets, with the names /n000, /n001 and so on.
func secretKeys(secrets ...int) []impl.Key {
	l := []impl.Key{}
	for i, secret := range secrets {
		l = append(l, impl.Key{Name: numberedName(i), Secret: secret})
	}
	return l
}

// numberedKeys are keys with names and secrets of their own, which are valid except for the length of the list.
func numberedKeys(length int) []impl.Key {
	l := []impl.Key{}
	for i := range length {
		l = append(l, impl.Key{Name: numberedName(i), Secret: 1000 + i})
	}
	return l
}

// keysText is the same for equal lists of keys only.
func keysText(l []impl.Key) string {
	text := ""
	for _, k := range l {
		text += fmt.Sprintf("%q=%d ", k.Name.Parts, k.Secret)
	}
	return text
}

var emptyKeys = [][]impl.Key{nil, {}, keysOf("/a", "/b")[:0]}

// sameTexts are names that are not equal, though FormatName gives them, or some texts made of their parts, are equal.
var sameTexts = []impl.Name{
	nameOf("a", "b"), nameOf("a/b"), nameOf("ab"), nameOf("", "ab"), nameOf("ab", ""), nameOf("", "a", "b"), nameOf("a", "", "b"), nameOf("a", "b", ""), nameOf("a b"), nameOf("a,b"), nameOf("a\x00b"), nameOf("a", "\x00b"), nameOf("a\x00", "b"),
	nameOf(), nameOf(""), nameOf("", ""), nameOf("/"), nameOf("\x00"), nameOf("a", "\x01b"), nameOf("a\x01b"), nameOf("\x01a", "b"), nameOf("\x01a\x01b"), nameOf("A"), nameOf("a\xff"), nameOf("a\xfe"), nameOf("a\ufffd"),
	nameOf("a", "b", "c", "d", "e", "f", "g"), nameOf("a", "b", "c", "d", "e", "f", "h"), nameOf("a", "b", "c", "d", "e", "f"), nameOf("abcdefgh"), nameOf("abcdefghi"), nameOf("abcdefghj"),
}

// shortKeys are all lists of up to three of some keys: valid ones, and ones without a valid name or secret.
func shortKeys() [][]impl.Key {
	some := []impl.Key{
		keyOf("/a", 5), keyOf("/a", 6), keyOf("/a/b", 5), keyOf("/a/b", 7), {Name: nameOf("a/b"), Secret: 7}, keyOf("/", 6), keyOf("/b", 0), keyOf("/a", 0), keyOf("/b", -5), keyOf("/b", impl.Prime+5),
	}
	lists := [][]impl.Key{}
	for _, digits := range sequences(strings.Split("0123456789", ""), 3) {
		l := []impl.Key{}
		for _, digit := range digits {
			l = append(l, some[digit[0]-'0'])
		}
		lists = append(lists, l)
	}
	return lists
}

// model9Valid follows the document's words without the program.
func model9Valid(l []impl.Key) bool {
	for i, k := range l {
		if !wantValidName(k.Name) || len(k.Name.Parts) == 0 || k.Secret < 1 || k.Secret > 2147483646 {
			return false
		}
		for _, other := range l[:i] {
			if slices.Equal(other.Name.Parts, k.Name.Parts) || other.Secret == k.Secret {
				return false
			}
		}
	}
	return len(l) <= 8
}

func model9Secret(l []impl.Key, n impl.Name) int {
	for _, k := range l {
		if slices.Equal(k.Name.Parts, n.Parts) {
			return k.Secret
		}
	}
	return 0
}

func model9Verifies(secret int, x impl.Data) bool {
	return secret >= 1 && secret <= 2147483646 && x.Signature == wantMAC(secret, wantPortion(x))
}

func TestTheLimitOfKeysIsThatOfTheDocument(t *testing.T) {
	if impl.MaxKeys != 8 {
		t.Errorf("MaxKeys = %d", impl.MaxKeys)
	}
}

func TestValidKeys(t *testing.T) {
	for _, l := range emptyKeys {
		if !impl.ValidKeys(l) {
			t.Errorf("ValidKeys(%v) = false", l)
		}
	}
	for _, texts := range [][]string{
		{"/a"}, {"/a", "/b"}, {"/b", "/a"}, {"/key/a", "/a/key"}, {"/a", "/a/b", "/a/b/c"}, {"/a/b", "/a"}, {"/a/b", "/a-b", "/ab"}, {"/a/b/c/d/e/f", "/abcdefgh"},
		{"/a", "/b", "/c", "/d", "/e", "/f", "/g", "/h"},
	} {
		if !impl.ValidKeys(keysOf(texts...)) {
			t.Errorf("ValidKeys of %q = false", texts)
		}
	}
	for _, texts := range [][]string{
		// The empty name, and names that are not valid.
		{"/"}, {"/a", "/"}, {"/", "/a"}, {"/A"}, {"/a", "/A"}, {"/a/"}, {"/nine99999"}, {"/a/b/c/d/e/f/g"}, {"/*"}, {"/?x"},
		// A name that occurs twice.
		{"/a", "/a"}, {"/a", "/b", "/a"}, {"/a", "/b", "/b"}, {"/a", "/a", "/b"}, {"/a/b", "/a", "/a/b"}, {"/a", "/b", "/c", "/d", "/e", "/f", "/g", "/a"},
		// One key too many.
		{"/a", "/b", "/c", "/d", "/e", "/f", "/g", "/h", "/i"},
	} {
		if impl.ValidKeys(keysOf(texts...)) {
			t.Errorf("ValidKeys of %q = true", texts)
		}
	}
	for _, n := range slices.Concat(emptyNames, notNames) {
		if impl.ValidKeys([]impl.Key{{Name: n, Secret: 5}}) {
			t.Errorf("ValidKeys with the name %q = true", n.Parts)
		}
	}
}

func TestValidKeysOfEachSecret(t *testing.T) {
	for _, secret := range allSecrets() {
		want := slices.Contains(validSecrets, secret)
		if got := impl.ValidKeys([]impl.Key{keyOf("/a", secret)}); got != want {
			t.Errorf("ValidKeys with the secret %d = %v", secret, got)
		}
		if got := impl.ValidKeys(secretKeys(99, secret)); got != want {
			t.Errorf("ValidKeys with the secrets 99 and %d = %v", secret, got)
		}
	}
	for x := -300; x <= 300; x++ {
		if got := impl.ValidKeys(secretKeys(x)); got != (x >= 1) {
			t.Errorf("ValidKeys with the secret %d = %v", x, got)
		}
		if got := impl.ValidKeys(secretKeys(2147483646 + x)); got != (x <= 0) {
			t.Errorf("ValidKeys with the secret %d = %v", 2147483646+x, got)
		}
	}
}

func TestValidKeysOfASecretThatOccursTwice(t *testing.T) {
	for _, secrets := range [][]int{
		{5, 5}, {1, 1}, {impl.Prime - 1, impl.Prime - 1}, {5, 6, 5}, {6, 5, 5}, {5, 5, 6}, {5, 5, 5}, {1, 2, 3, 4, 5, 6, 7, 1}, {1, 2, 3, 4, 5, 6, 7, 7}, {1, 2, 3, 4, 4, 6, 7, 8},
	} {
		if impl.ValidKeys(secretKeys(secrets...)) {
			t.Errorf("ValidKeys with the secrets %v = true", secrets)
		}
	}
	for _, secrets := range [][]int{
		{5}, {5, 6}, {6, 5}, {1, impl.Prime - 1}, {5, 5 + 256}, {5, 5 + 1<<16}, {5, 5 + 1<<30}, {8, 7, 6, 5, 4, 3, 2, 1}, {1, 2, 4, 8, 16, 32, 64, 128},
	} {
		if !impl.ValidKeys(secretKeys(secrets...)) {
			t.Errorf("ValidKeys with the secrets %v = false", secrets)
		}
	}
}

func TestValidKeysOfEachLength(t *testing.T) {
	for length := range 50 {
		if got, want := impl.ValidKeys(numberedKeys(length)), length <= 8; got != want {
			t.Errorf("ValidKeys of %d keys = %v", length, got)
		}
	}
	if impl.ValidKeys(numberedKeys(256+8)) || impl.ValidKeys(make([]impl.Key, 9)) || impl.ValidKeys(make([]impl.Key, 8)) {
		t.Error("ValidKeys of many keys = true")
	}
}

// One key that does not fit makes a list invalid, wherever it is.
func TestValidKeysOfEachKey(t *testing.T) {
	for length := 1; length <= 8; length++ {
		for at := range length {
			for _, n := range slices.Concat(emptyNames, notNames) {
				l := numberedKeys(length)
				l[at].Name = n
				if impl.ValidKeys(l) {
					t.Errorf("ValidKeys of %d keys with the name %q at %d = true", length, n.Parts, at)
				}
			}
			for _, secret := range invalidSecrets {
				l := numberedKeys(length)
				l[at].Secret = secret
				if impl.ValidKeys(l) {
					t.Errorf("ValidKeys of %d keys with the secret %d at %d = true", length, secret, at)
				}
			}
			for other := range length {
				l, m := numberedKeys(length), numberedKeys(length)
				l[at].Name = nameOf(append(make([]string, 0, 9), l[other].Name.Parts...)...)
				m[at].Secret = m[other].Secret
				if got := impl.ValidKeys(l); got != (at == other) {
					t.Errorf("ValidKeys of %d keys with the same name at %d and %d = %v", length, other, at, got)
				}
				if got := impl.ValidKeys(m); got != (at == other) {
					t.Errorf("ValidKeys of %d keys with the same secret at %d and %d = %v", length, other, at, got)
				}
			}
		}
	}
}

func TestValidKeysOfAllShortLists(t *testing.T) {
	valid := 0
	for _, l := range shortKeys() {
		want := model9Valid(l)
		if got := impl.ValidKeys(l); got != want {
			t.Errorf("ValidKeys of %s= %v", keysText(l), got)
		}
		if want {
			valid++
		}
	}
	if valid < 10 {
		t.Errorf("only %d of the lists are valid", valid)
	}
}

func TestSecretOf(t *testing.T) {
	l := keysOf("/key/a", "/a/key", "/a", "/a/key/b", "/a/key", "/A", "/A", "/", "/a/b/c/d/e/f/g", "/")
	cases := []struct {
		n    string
		want int
	}{
		{"/key/a", 101}, {"/a/key", 102}, {"/a", 103}, {"/a/key/b", 104}, {"/A", 106}, {"/", 108}, {"/a/b/c/d/e/f/g", 109},
		// There is no key with these names, though some are prefixes of present ones, or under them, or have their texts.
		{"/z", 0}, {"/key", 0}, {"/key/a/b", 0}, {"/a/ke", 0}, {"/a/keyb", 0}, {"/key/b", 0}, {"/b/key", 0}, {"/akey", 0}, {"/a-key", 0}, {"//a", 0}, {"/a/", 0}, {"//", 0}, {"/B", 0}, {"/a/b/c/d/e/f", 0}, {"/a/b/c/d/e/f/h", 0},
	}
	for _, c := range cases {
		if got := impl.SecretOf(l, named(c.n)); got != c.want {
			t.Errorf("SecretOf %q = %d, want %d", c.n, got, c.want)
		}
	}
	for _, none := range emptyKeys {
		for _, n := range slices.Concat(emptyNames, ascendingNames) {
			if got := impl.SecretOf(none, n); got != 0 {
				t.Errorf("SecretOf no keys, %q = %d", n.Parts, got)
			}
		}
	}
}

// The first key with a name counts, also if its secret is not valid.
func TestSecretOfANameThatOccursTwice(t *testing.T) {
	for _, first := range allSecrets() {
		for _, second := range allSecrets() {
			l := []impl.Key{keyOf("/b", 77), keyOf("/a", first), keyOf("/c", 78), keyOf("/a", second), keyOf("/a", 79)}
			if got := impl.SecretOf(l, named("/a")); got != first {
				t.Errorf("SecretOf %sand /a = %d, want %d", keysText(l), got, first)
			}
		}
	}
	// Keys with the same secret have it both.
	l := secretKeys(5, 6, 5, 5)
	for i, want := range []int{5, 6, 5, 5, 0} {
		if got := impl.SecretOf(l, numberedName(i)); got != want {
			t.Errorf("SecretOf %sand key %d = %d, want %d", keysText(l), i, got, want)
		}
	}
}

func TestSecretOfEachKey(t *testing.T) {
	for _, length := range []int{1, 2, 7, 8, 9, 20, 300} {
		l := numberedKeys(length)
		for i := range length + 1 {
			want := 1000 + i
			if i == length {
				want = 0
			}
			if got := impl.SecretOf(l, numberedName(i)); got != want {
				t.Errorf("SecretOf %d keys and key %d = %d, want %d", length, i, got, want)
			}
		}
	}
}

// Names that are not valid are names all the same, which are told apart by their parts.
func TestSecretOfInvalidNames(t *testing.T) {
	names := slices.Concat(sameTexts, ascendingNames, notNames)
	l := []impl.Key{}
	for i, n := range names {
		l = append(l, impl.Key{Name: n, Secret: 500 + i})
	}
	for _, m := range names {
		if got, want := impl.SecretOf(l, m), model9Secret(l, m); got != want {
			t.Errorf("SecretOf all keys and %q = %d, want %d", m.Parts, got, want)
		}
		for i, n := range names {
			want := 0
			if slices.Equal(n.Parts, m.Parts) {
				want = 500 + i
			}
			if got := impl.SecretOf(l[i:i+1], m); got != want {
				t.Errorf("SecretOf the key %q and %q = %d, want %d", n.Parts, m.Parts, got, want)
			}
		}
	}
	long := strings.Repeat("a", 300)
	for _, c := range []struct{ a, b impl.Name }{
		{nameOf(long), nameOf(long[1:])}, {nameOf(long, "a"), nameOf("a", long)}, {nameOf(make([]string, 300)...), nameOf(make([]string, 299)...)}, {nameOf(long, long), nameOf(long + long)}, {nameOf("a\xff" + long[:255]), nameOf("a", long[:255])},
	} {
		l := []impl.Key{{Name: c.a, Secret: 5}, {Name: c.b, Secret: 6}}
		if impl.SecretOf(l, c.a) != 5 || impl.SecretOf(l, c.b) != 6 || impl.SecretOf(l[:1], c.b) != 0 || impl.SecretOf(l[1:], c.a) != 0 {
			t.Error("SecretOf long names")
		}
	}
}

func TestSecretOfEmptyNames(t *testing.T) {
	for _, a := range emptyNames {
		for _, b := range emptyNames {
			if got := impl.SecretOf([]impl.Key{keyOf("/a", 4), {Name: a, Secret: 5}}, b); got != 5 {
				t.Errorf("SecretOf the empty names %#v and %#v = %d", a.Parts, b.Parts, got)
			}
		}
	}
}

// checkSigned holds SignWithKey against the wanted signature.
func checkSigned(t *testing.T, l []impl.Key, x impl.Data) {
	t.Helper()
	before := keysText(l)
	got, ok := impl.SignWithKey(l, x.KeyName, x.Name, x.Content, x.FreshUntil)
	if dataText(got) != dataText(x) || !ok {
		t.Errorf("SignWithKey of %sand %s = %s, %v", before, dataText(x), dataText(got), ok)
	}
	if after := keysText(l); after != before {
		t.Errorf("SignWithKey of %schanges its argument to %s", before, after)
	}
}

func checkNotSigned(t *testing.T, l []impl.Key, key impl.Name, n impl.Name, b []byte, until int) {
	t.Helper()
	got, ok := impl.SignWithKey(l, key, n, b, until)
	if ok || dataText(got) != dataText(impl.Data{}) {
		t.Errorf("SignWithKey of %sand %q, %q, %v, %d = %s, %v, want the zero Data, false", keysText(l), key.Parts, n.Parts, b, until, dataText(got), ok)
	}
}

// Some of the signatures are the least and the greatest that there are.
func TestSignWithKey(t *testing.T) {
	l := []impl.Key{keyOf("/a/key", 5), keyOf("/a", 7), keyOf("/abcdefgh", impl.Prime-1), keyOf("/k", 16814), keyOf("/l", 12943), keyOf("/a/b/c/d/e/f", 1)}
	for _, x := range []impl.Data{
		dataOf("/a/1", "hi", "/a/key", 50, 1657330497), dataOf("/a/1", "", "/a/key", 50, 322201569), dataOf("/a", "\x00\xff\x80", "/a", 100000, 452553268),
		dataOf("/a/b/c/d/e/f", strings.Repeat("\xff", 60), "/abcdefgh", 100000, 1759144017), dataOf("/a/1", "hi", "/k", 98310, 0),
	} {
		checkSigned(t, l, x)
	}
	checkSigned(t, []impl.Key{keyOf("/k", 12943)}, dataOf("/a/1", "hi", "/k", 68541, impl.Prime-1))
	// A key may sign data with its own name.
	x := dataOf("/a/key", "hi", "/a/key", 50, 0)
	x.Signature = wantMAC(5, wantPortion(x))
	checkSigned(t, l, x)
}

func TestSignWithEachKey(t *testing.T) {
	l := append(numberedKeys(6), keyOf("/a/b/c/d/e/f", impl.Prime-1), keyOf("/abcdefgh", 1))
	for _, k := range l {
		for _, n := range dataNames {
			for _, b := range contents {
				for _, until := range times {
					x := impl.Data{Name: n, Content: b, KeyName: k.Name, FreshUntil: until}
					x.Signature = wantMAC(k.Secret, wantPortion(x))
					checkSigned(t, l, x)
				}
			}
		}
	}
}

func TestSignWithKeyWithoutAKey(t *testing.T) {
	l := keysOf("/key/a", "/a/key", "/a", "/a/key/b")
	n, b := named("/a/1"), []byte("hi")
	for _, none := range emptyKeys {
		for _, key := range slices.Concat(emptyNames, notNames, keyNames) {
			checkNotSigned(t, none, key, n, b, 50)
		}
	}
	for _, s := range []string{"/", "/z", "/key", "/key/a/b", "/a/ke", "/A", "/a/", "//a", "/a/key/c", "/a/1"} {
		checkNotSigned(t, l, named(s), n, b, 50)
	}
	for _, key := range slices.Concat(emptyNames, notNames) {
		checkNotSigned(t, l, key, n, b, 50)
	}
	// A secret of 0 is no secret, and no later key with the same name counts.
	zero := []impl.Key{keyOf("/b", 6), keyOf("/a", 0), keyOf("/a", 5)}
	checkNotSigned(t, zero, named("/a"), n, b, 50)
	checkNotSigned(t, zero[:2], named("/a"), n, b, 50)
}

func TestSignWithKeyOfInvalidData(t *testing.T) {
	l := keysOf("/key/a", "/a/key")
	key, n, b := named("/a/key"), named("/a/1"), []byte("hi")
	for _, m := range slices.Concat(emptyNames, notNames) {
		checkNotSigned(t, l, key, m, b, 50)
		checkNotSigned(t, l, key, m, nil, 0)
	}
	for _, c := range notContents {
		checkNotSigned(t, l, key, n, c, 50)
	}
	for _, until := range notTimes {
		checkNotSigned(t, l, key, n, b, until)
		checkNotSigned(t, l, key, n, nil, until)
	}
	// The key is in the list, but its name is not valid.
	for _, m := range notNames {
		checkNotSigned(t, []impl.Key{{Name: m, Secret: 5}}, m, n, b, 50)
	}
	checkNotSigned(t, l, named("/z"), impl.Name{}, counting(61), -1)
}

func TestSignWithKeyOfEachTimeAndLength(t *testing.T) {
	l := keysOf("/key/a", "/a/key")
	for x := -300; x <= 300; x++ {
		for _, until := range []int{x, 100000 + x} {
			if signed, ok := impl.SignWithKey(l, named("/a/key"), named("/a/1"), nil, until); ok != (until >= 0 && until <= 100000) || ok && signed.FreshUntil != until {
				t.Errorf("SignWithKey with FreshUntil %d = %s, %v", until, dataText(signed), ok)
			}
		}
	}
	for length := range 400 {
		if signed, ok := impl.SignWithKey(l, named("/a/key"), named("/a/1"), counting(length), 50); ok != (length <= 60) || ok && len(signed.Content) != length {
			t.Errorf("SignWithKey with a content of %d bytes = %s, %v", length, dataText(signed), ok)
		}
	}
}

// Neither the list nor its secrets need be valid, as long as the secret is not 0 and the data are valid; the first key with the name signs.
func TestSignWithKeyOfInvalidKeys(t *testing.T) {
	for _, secret := range allSecrets() {
		l := []impl.Key{keyOf("/b", 6), keyOf("/A", secret), keyOf("/a", secret), keyOf("/a", 7), keyOf("/c", secret)}
		x := dataOf("/a/1", "hi", "/a", 50, 0)
		x.Signature = wantMAC(secret, wantPortion(x))
		if secret == 0 {
			checkNotSigned(t, l, x.KeyName, x.Name, x.Content, x.FreshUntil)
			continue
		}
		checkSigned(t, l, x)
		if got, want := impl.VerifySignature(l, x), slices.Contains(validSecrets, secret); got != want {
			t.Errorf("VerifySignature of %sand %s = %v", keysText(l), dataText(x), got)
		}
	}
	// The empty name is no valid name of a key, but data may have it as their KeyName.
	for _, n := range emptyNames {
		checkSigned(t, []impl.Key{keyOf("/a", 6), {Name: n, Secret: 5}}, dataOf("/a/1", "hi", "/", 50, 1687281929))
	}
	for _, length := range []int{9, 20, 300} {
		x := impl.Data{Name: named("/a/1"), KeyName: numberedName(length - 1)}
		x.Signature = wantMAC(1000+length-1, wantPortion(x))
		checkSigned(t, numberedKeys(length), x)
	}
}

func checkMatching(t *testing.T, l []impl.Key, x impl.Data, want ...int) {
	t.Helper()
	if got := impl.MatchingKeys(l, x); !slices.Equal(got, want) {
		t.Errorf("MatchingKeys of %sand %s = %v, want %v", keysText(l), dataText(x), got, want)
	}
}

// What a key signs verifies with this key only, and under its name only.
func TestEveryKeySignsWithItsOwnSecretOnly(t *testing.T) {
	lists := [][]impl.Key{
		keysOf("/a"), keysOf("/key/a", "/a/key"), numberedKeys(8), secretKeys(8, 7, 6, 5, 4, 3, 2, 1), secretKeys(1, impl.Prime-1, 2, impl.Prime-2, 255, 256, 1<<30, 1000003), keysOf("/a", "/a/b", "/a/b/c", "/a/b/c/d", "/ab", "/a-b", "/abc", "/b"),
	}
	for _, l := range lists {
		for i, k := range l {
			for _, n := range dataNames {
				for _, b := range [][]byte{nil, {0}, []byte("hi"), counting(60)} {
					checkOwnSecret(t, l, i, n, b)
				}
			}
			checkOwnSecret(t, l, i, k.Name, []byte("hi"))
		}
	}
}

func checkOwnSecret(t *testing.T, l []impl.Key, i int, n impl.Name, b []byte) {
	t.Helper()
	x, ok := impl.SignWithKey(l, l[i].Name, n, b, 50)
	if !ok || !impl.VerifySignature(l, x) || !impl.VerifyData(l[i].Secret, x) {
		t.Errorf("%s is not signed with the key %d of %s", dataText(x), i, keysText(l))
	}
	checkMatching(t, l, x, i)
	for j, other := range l {
		if j == i {
			continue
		}
		if impl.VerifyData(other.Secret, x) {
			t.Errorf("%s verifies with the key %d of %s, too", dataText(x), j, keysText(l))
		}
		claimed := x
		claimed.KeyName = other.Name
		if impl.VerifySignature(l, claimed) {
			t.Errorf("VerifySignature of %sand %s = true, signed by the key %d", keysText(l), dataText(claimed), i)
		}
	}
	// Without the key, nobody has signed.
	without := slices.Delete(slices.Clone(l), i, i+1)
	if impl.VerifySignature(without, x) {
		t.Errorf("VerifySignature of %sand %s = true", keysText(without), dataText(x))
	}
	checkMatching(t, without, x)
}

func TestVerifySignature(t *testing.T) {
	x := dataOf("/a/1", "hi", "/a/key", 50, 1657330497) // signed with 5
	cases := []struct {
		l    []impl.Key
		want bool
	}{
		{nil, false}, {[]impl.Key{}, false}, {[]impl.Key{keyOf("/a/key", 5)}, true}, {[]impl.Key{keyOf("/a/key", 6)}, false},
		// Another key has the secret.
		{[]impl.Key{keyOf("/a", 5)}, false}, {[]impl.Key{keyOf("/a/key", 6), keyOf("/a", 5)}, false}, {[]impl.Key{keyOf("/a", 5), keyOf("/a/key", 6)}, false}, {[]impl.Key{keyOf("/a/key/b", 5)}, false}, {[]impl.Key{keyOf("/a/1", 5)}, false}, {[]impl.Key{{Name: nameOf("a/key"), Secret: 5}}, false},
		// Both have it.
		{[]impl.Key{keyOf("/a", 5), keyOf("/a/key", 5)}, true}, {[]impl.Key{keyOf("/a/key", 5), keyOf("/a", 5)}, true},
		// The first one with the name counts.
		{[]impl.Key{keyOf("/a/key", 5), keyOf("/a/key", 6)}, true}, {[]impl.Key{keyOf("/a/key", 6), keyOf("/a/key", 5)}, false}, {[]impl.Key{keyOf("/a/key", 0), keyOf("/a/key", 5)}, false}, {[]impl.Key{keyOf("/a", 6), keyOf("/a/key", 5), keyOf("/b", 7)}, true},
		// The secret has the same MAC, but is not valid.
		{[]impl.Key{keyOf("/a/key", 5+impl.Prime)}, false}, {[]impl.Key{keyOf("/a/key", 5-impl.Prime)}, false}, {[]impl.Key{keyOf("/a/key", 0)}, false},
		{append(numberedKeys(8), keyOf("/a/key", 5)), true}, {append(numberedKeys(300), keyOf("/a/key", 5)), true}, {append(numberedKeys(300), keyOf("/a/key", 6)), false},
	}
	for _, c := range cases {
		if got := impl.VerifySignature(c.l, x); got != c.want {
			t.Errorf("VerifySignature of %sand %s = %v", keysText(c.l), dataText(x), got)
		}
	}
}

func TestVerifySignatureOfChangedData(t *testing.T) {
	l := []impl.Key{keyOf("/a", 6), keyOf("/a/key", 5), keyOf("/key/a", 7)}
	signed := dataOf("/a/1", "hi", "/a/key", 50, 1657330497)
	if !impl.VerifySignature(l, signed) {
		t.Errorf("VerifySignature of %sand %s = false", keysText(l), dataText(signed))
	}
	for _, x := range []impl.Data{
		dataOf("/a/2", "hi", "/a/key", 50, signed.Signature), dataOf("/a/1", "ho", "/a/key", 50, signed.Signature), dataOf("/a/1", "hi", "/a", 50, signed.Signature), dataOf("/a/1", "hi", "/key/a", 50, signed.Signature), dataOf("/a/1", "hi", "/z", 50, signed.Signature),
		dataOf("/a/1", "hi", "/", 50, signed.Signature), dataOf("/a/1", "hi", "/A", 50, signed.Signature), dataOf("/a/1", "hi", "/a/key", 51, signed.Signature), dataOf("/a/1", "hi", "/a/key", 50, signed.Signature+1), dataOf("/a/1", "hi", "/a/key", 50, signed.Signature+impl.Prime), dataOf("/a/1", "hi", "/a/key", 50, 0), {},
	} {
		if impl.VerifySignature(l, x) {
			t.Errorf("VerifySignature of %sand %s = true", keysText(l), dataText(x))
		}
		checkMatching(t, l, x)
	}
}

// VerifyData asks for no valid data, nor do VerifySignature and MatchingKeys.
func TestSignaturesOfInvalidData(t *testing.T) {
	for _, x := range invalidDatas() {
		l := []impl.Key{keyOf("/b", 6), {Name: x.KeyName, Secret: 5}, keyOf("/z", 5)}
		if impl.VerifySignature(l, x) {
			t.Errorf("VerifySignature of %sand %s = true", keysText(l), dataText(x))
		}
		checkMatching(t, l, x)
		x.Signature = wantMAC(5, wantPortion(x))
		if !impl.VerifySignature(l, x) {
			t.Errorf("VerifySignature of %sand %s = false", keysText(l), dataText(x))
		}
		checkMatching(t, l, x, 1, 2)
	}
}

// The names of the keys do not matter, nor does it whether the list is valid.
func TestMatchingKeys(t *testing.T) {
	x := dataOf("/a/1", "hi", "/a/key", 50, 1657330497) // signed with 5
	for _, l := range emptyKeys {
		checkMatching(t, l, x)
	}
	cases := []struct {
		secrets []int
		want    []int
	}{
		{[]int{5}, []int{0}}, {[]int{6}, nil}, {[]int{6, 5}, []int{1}}, {[]int{1, 2, 3, 4, 6, 7, 8, 5}, []int{7}}, {[]int{1, 2, 3, 4, 6, 7, 8, 9}, nil}, {[]int{1, 2, 3, 4, 6, 7, 8, 9, 5}, []int{8}},
		// A secret that occurs twice, or more often.
		{[]int{5, 5}, []int{0, 1}}, {[]int{5, 6, 5}, []int{0, 2}}, {[]int{6, 5, 6, 5, 6}, []int{1, 3}}, {[]int{6, 6}, nil}, {[]int{6, 5, 6}, []int{1}}, {[]int{5, 5, 5, 5, 5, 5, 5, 5}, []int{0, 1, 2, 3, 4, 5, 6, 7}}, {[]int{5, 5, 5, 5, 5, 5, 5, 5, 5, 5}, []int{0, 1, 2, 3, 4, 5, 6, 7, 8, 9}},
		// Secrets that are not valid, some of them with the same MAC.
		{[]int{0, 5, -5, impl.Prime + 5, 5 - impl.Prime}, []int{1}}, {[]int{impl.Prime + 5}, nil}, {[]int{math.MinInt, math.MaxInt, 5}, []int{2}},
	}
	for _, c := range cases {
		checkMatching(t, secretKeys(c.secrets...), x, c.want...)
		same := secretKeys(c.secrets...)
		for i := range same {
			same[i].Name = nameOf("A")
		}
		checkMatching(t, same, x, c.want...)
	}
	long, want := numberedKeys(300), []int{}
	for i := 0; i < 300; i += 7 {
		long[i].Secret = 5
		want = append(want, i)
	}
	checkMatching(t, long, x, want...)
	// Neither does the key that the data name.
	checkMatching(t, []impl.Key{keyOf("/a/key", 6), keyOf("/a", 5), keyOf("/a/key", 5)}, x, 1, 2)
	checkMatching(t, []impl.Key{keyOf("/a/key", 6)}, x)
	// Data that were signed with a secret that is not valid match no key.
	for _, secret := range invalidSecrets {
		y := dataOf("/a/1", "hi", "/a/key", 50, 0)
		y.Signature = wantMAC(secret, wantPortion(y))
		checkMatching(t, []impl.Key{keyOf("/a/key", secret), keyOf("/a", secret)}, y)
	}
}

func TestSignaturesOfAllShortLists(t *testing.T) {
	datas := []impl.Data{dataOf("/a/1", "hi", "/a", 50, 0), dataOf("/a/1", "hi", "/a/b", 50, 0), dataOf("/a/1", "hi", "/", 50, 0), dataOf("/a/1", "hi", "/b", 50, 0), {Name: nameOf("c"), KeyName: nameOf("a/b")}, dataOf("/a/1", "hi", "/z", 50, 0)}
	for _, l := range shortKeys() {
		for _, x := range datas {
			secret := model9Secret(l, x.KeyName)
			if got := impl.SecretOf(l, x.KeyName); got != secret {
				t.Errorf("SecretOf %sand %q = %d, want %d", keysText(l), x.KeyName.Parts, got, secret)
			}
			if signed := x; secret != 0 && wantValidName(x.KeyName) {
				signed.Signature = wantMAC(secret, wantPortion(x))
				checkSigned(t, l, signed)
			} else {
				checkNotSigned(t, l, x.KeyName, x.Name, x.Content, x.FreshUntil)
			}
			for _, signing := range []int{5, 6, 7, 8} {
				checkSignature(t, l, x, signing)
			}
		}
		if t.Failed() {
			return
		}
	}
}

// checkSignature holds VerifySignature and MatchingKeys against the document's words.
func checkSignature(t *testing.T, l []impl.Key, x impl.Data, signing int) {
	t.Helper()
	x.Signature = wantMAC(signing, wantPortion(x))
	if got, want := impl.VerifySignature(l, x), model9Verifies(model9Secret(l, x.KeyName), x); got != want {
		t.Errorf("VerifySignature of %sand %s = %v", keysText(l), dataText(x), got)
	}
	want := []int{}
	for i, k := range l {
		if model9Verifies(k.Secret, x) {
			want = append(want, i)
		}
	}
	checkMatching(t, l, x, want...)
}

func checkAdd(t *testing.T, l []impl.Key, k impl.Key, wantOK bool) {
	t.Helper()
	before := keysText(l)
	want := before
	if wantOK {
		want += keysText([]impl.Key{k})
	}
	if got, ok := impl.AddKey(l, k); keysText(got) != want || ok != wantOK {
		t.Errorf("AddKey(%s, %s) = %s, %v, want %s, %v", before, keysText([]impl.Key{k}), keysText(got), ok, want, wantOK)
	}
	if after := keysText(l); after != before {
		t.Errorf("AddKey(%s, %s) changes its argument to %s", before, keysText([]impl.Key{k}), after)
	}
}

func TestAddKey(t *testing.T) {
	for _, none := range emptyKeys {
		checkAdd(t, none, keyOf("/a", 5), true)
		checkAdd(t, none, keyOf("/abcdefgh/b/c/d/e/f", impl.Prime-1), true)
		checkAdd(t, none, impl.Key{}, false)
		checkAdd(t, none, keyOf("/a", 0), false)
		checkAdd(t, none, keyOf("/", 5), false)
	}
	l := keysOf("/key/a", "/a/key") // with the secrets 101 and 102
	for _, s := range []string{"/a", "/key", "/z", "/0", "/a/key/b", "/key/a/b", "/key/b", "/a-key", "/akey"} {
		checkAdd(t, l, keyOf(s, 5), true)
		checkAdd(t, l, keyOf(s, 100), true)
		checkAdd(t, l, keyOf(s, 101), false)
		checkAdd(t, l, keyOf(s, 102), false)
		checkAdd(t, l, keyOf(s, 103), true)
	}
	for _, s := range []string{"/key/a", "/a/key"} {
		for _, secret := range []int{5, 101, 102} {
			checkAdd(t, l, keyOf(s, secret), false)
		}
	}
}

func TestAddKeyOfEachNameAndSecret(t *testing.T) {
	for _, l := range [][]impl.Key{nil, {keyOf("/x", 99)}, numberedKeys(7)} {
		for _, n := range slices.Concat(emptyNames, notNames, dataNames) {
			checkAdd(t, l, impl.Key{Name: n, Secret: 42}, wantValidName(n) && len(n.Parts) > 0)
		}
		for _, secret := range allSecrets() {
			checkAdd(t, l, keyOf("/y", secret), slices.Contains(validSecrets, secret))
		}
	}
}

func TestAddKeyToAListOfEachLength(t *testing.T) {
	for _, length := range []int{0, 1, 2, 3, 4, 5, 6, 7, 8, 9, 10, 20, 256 + 7} {
		l := numberedKeys(length)
		checkAdd(t, l, keyOf("/z", 5), length < 8)
		for i := range min(length, 10) {
			checkAdd(t, l, impl.Key{Name: numberedName(i), Secret: 5}, false)
			checkAdd(t, l, keyOf("/z", 1000+i), false)
			checkAdd(t, l, l[i], false)
		}
	}
}

// No key that is added makes a valid list of one that is not.
func TestAddKeyToAllShortLists(t *testing.T) {
	added := []impl.Key{keyOf("/a", 8), keyOf("/c", 5), keyOf("/c", 8), keyOf("/a/b", 9), {}, keyOf("/c", 0), keyOf("/", 8), {Name: nameOf("a/b"), Secret: 9}, keyOf("/c", -5)}
	for _, l := range shortKeys() {
		for _, k := range added {
			checkAdd(t, l, k, model9Valid(slices.Concat(l, []impl.Key{k})))
		}
	}
}

// A list that was made by adding keys is valid, and has all of them.
func TestAddedKeysAreKept(t *testing.T) {
	l := []impl.Key(nil)
	for i := range 12 {
		longer, ok := impl.AddKey(l, impl.Key{Name: numberedName(i), Secret: 500 - i})
		if ok != (i < 8) || !impl.ValidKeys(longer) || len(longer) != min(8, i+1) {
			t.Fatalf("AddKey of key %d = %s, %v", i, keysText(longer), ok)
		}
		l = longer
		for j := range l {
			if got := impl.SecretOf(l, numberedName(j)); got != 500-j {
				t.Errorf("SecretOf key %d of %d = %d", j, len(l), got)
			}
		}
	}
}

func TestFormatKeys(t *testing.T) {
	for _, none := range emptyKeys {
		if got := impl.FormatKeys(none); got != "-" {
			t.Errorf("FormatKeys of no keys = %q", got)
		}
	}
	cases := []struct {
		l    []impl.Key
		want string
	}{
		{keysOf("/a"), "/a"}, {keysOf("/key/a", "/a/key"), "/key/a /a/key"}, {keysOf("/b", "/a", "/c"), "/b /a /c"}, {keysOf("/a/b/c/d/e/f", "/abcdefgh"), "/a/b/c/d/e/f /abcdefgh"},
		{numberedKeys(8), "/n000 /n001 /n002 /n003 /n004 /n005 /n006 /n007"},
		// Lists that are not valid have a text, too.
		{keysOf("/a", "/a"), "/a /a"}, {keysOf("/"), "/"}, {[]impl.Key{{}}, "/"}, {make([]impl.Key, 3), "/ / /"}, {keysOf("/A", "/"), "/A /"}, {[]impl.Key{{Name: nameOf("")}, {Name: nameOf("a/b", " ")}}, "/ /a/b/ "}, {[]impl.Key{keyOf("/a", -5), keyOf("/b", 0)}, "/a /b"}, {secretKeys(5, 5), "/n000 /n001"},
		{numberedKeys(10), "/n000 /n001 /n002 /n003 /n004 /n005 /n006 /n007 /n008 /n009"},
	}
	for _, c := range cases {
		if got := impl.FormatKeys(c.l); got != c.want {
			t.Errorf("FormatKeys of %s= %q, want %q", keysText(c.l), got, c.want)
		}
	}
	for _, l := range shortKeys() {
		texts := []string{}
		for _, k := range l {
			texts = append(texts, "/"+strings.Join(k.Name.Parts, "/"))
		}
		if got := impl.FormatKeys(l); len(l) > 0 && got != strings.Join(texts, " ") {
			t.Errorf("FormatKeys of %s= %q", keysText(l), got)
		}
	}
}

func guardKeys(l []impl.Key) guardedList[impl.Key] {
	return guardList(l, keysOf("/q", "/a", "/", "/r", "/a/b", "/z"), func(k *impl.Key) []*[]string { return []*[]string{&k.Name.Parts} }, keysText)
}

// scribbleKeys changes all memory of keys, and that of their names.
func scribbleKeys(l []impl.Key) {
	whole := l[:cap(l)]
	for i := range whole {
		scribbleParts(whole[i].Name)
		whole[i] = keyOf("/changed", -1)
	}
}

// memoryKeys are valid and invalid lists; the keys of addedKeys can be added to some of them, and not to others.
var (
	memoryKeys = [][]impl.Key{
		nil, {}, keysOf("/a"), keysOf("/a", "/b"), keysOf("/b", "/a/b", "/a"), keysOf("/a", "/a"), keysOf("/a", "/A"), keysOf("/", "/a"), secretKeys(5, 5), append(numberedKeys(6), keyOf("/a", 6)), append(numberedKeys(7), keyOf("/a", 6)), append(numberedKeys(8), keyOf("/a", 6)),
	}
	addedKeys = []impl.Key{{}, keyOf("/a", 5), keyOf("/a/b", 101), keyOf("/c", 7), keyOf("/c/d", 102), keyOf("/A", 7), keyOf("/a/b/c/d/e/f", 8), keyOf("/c", 0)}
)

func TestKeysAreLeftAsTheyAre(t *testing.T) {
	for _, l := range memoryKeys {
		for _, k := range addedKeys {
			for _, x := range append(signedDatas(5), dataOf("/a/1", "hi", "/a", 50, 0), dataOf("/a/1", "hi", "/a", -1, 0), impl.Data{}) {
				g, added, data := guardKeys(l), guardKeys([]impl.Key{k}), guardData(x)
				calls := []struct {
					what string
					call func()
				}{
					{"ValidKeys", func() { impl.ValidKeys(g.slice) }},
					{"SecretOf", func() { impl.SecretOf(g.slice, added.slice[0].Name) }},
					{"SignWithKey", func() {
						impl.SignWithKey(g.slice, added.slice[0].Name, data.data.Name, data.data.Content, data.data.FreshUntil)
					}},
					{"SignWithKey with the KeyName", func() {
						impl.SignWithKey(g.slice, data.data.KeyName, data.data.Name, data.data.Content, data.data.FreshUntil)
					}},
					{"VerifySignature", func() { impl.VerifySignature(g.slice, data.data) }},
					{"MatchingKeys", func() { impl.MatchingKeys(g.slice, data.data) }},
					{"AddKey", func() { impl.AddKey(g.slice, added.slice[0]) }},
					{"FormatKeys", func() { impl.FormatKeys(g.slice) }},
				}
				for _, c := range calls {
					c.call()
					g.check(t, c.what)
					added.check(t, c.what+", the key")
					data.check(t, c.what)
				}
			}
		}
	}
}

func TestAddedKeysAreNewMemory(t *testing.T) {
	for _, l := range memoryKeys {
		for _, k := range addedKeys {
			g, added := guardKeys(l), guardKeys([]impl.Key{k})
			first, _ := impl.AddKey(g.slice, added.slice[0])
			second, _ := impl.AddKey(g.slice, added.slice[0])
			want := keysText(second)
			scribbleKeys(first)
			g.check(t, "AddKey, its result changed")
			added.check(t, "AddKey, its result changed, the key")
			scribbleKeys(g.slice)
			scribbleKeys(added.slice)
			if keysText(second) != want {
				t.Errorf("AddKey(%s, %s) shares memory with its arguments or with another result", keysText(l), keysText([]impl.Key{k}))
			}
		}
	}
}

// The names of a result are apart from each other, also where those of the argument are parts of the same array.
func TestNamesOfAddedKeysAreApart(t *testing.T) {
	array := []string{"a", "b", "c", "d", "e", "f", "g", "h"}
	lists := [][]impl.Key{
		{{Name: nameOf(array[:1]...), Secret: 1}, {Name: nameOf(array[:2]...), Secret: 2}, {Name: nameOf(array[:4]...), Secret: 3}, {Name: nameOf(array[1:2]...), Secret: 4}},
		{{Name: nameOf(array[:2]...), Secret: 1}, {Name: nameOf(array[:2]...), Secret: 1}, {Name: nameOf(array[:7]...)}},
	}
	for _, l := range lists {
		for _, n := range []impl.Name{nameOf(array[:0]...), nameOf(array[:1]...), nameOf(array[:3]...), nameOf(array[2:4]...), nameOf(array[7:]...), nameOf("A")} {
			result, _ := impl.AddKey(l, impl.Key{Name: n, Secret: 9})
			for i := range result {
				before := keysText(slices.Delete(slices.Clone(result), i, i+1))
				scribbleParts(result[i].Name)
				if after := keysText(slices.Delete(slices.Clone(result), i, i+1)); after != before {
					t.Errorf("AddKey: the name at %d shares memory with others: %s, want %s", i, after, before)
				}
			}
		}
	}
	if !slices.Equal(array, []string{"a", "b", "c", "d", "e", "f", "g", "h"}) {
		t.Errorf("the array of the names is %q", array)
	}
}

func TestDataSignedWithKeysAreNewMemory(t *testing.T) {
	for _, x := range append(signedDatas(5), dataOf("/a/1", "hi", "/a", 50, 0), dataOf("/a", "", "/a", 50, 0)) {
		g, data := guardKeys([]impl.Key{{Name: x.KeyName, Secret: 5}, keyOf("/b", 6)}), guardData(x)
		sign := func(key impl.Name) impl.Data {
			signed, _ := impl.SignWithKey(g.slice, key, data.data.Name, data.data.Content, data.data.FreshUntil)
			return signed
		}
		// The name of the key may be that of the data or that of the list.
		for _, key := range []impl.Name{data.data.KeyName, g.slice[0].Name} {
			first, second := sign(key), sign(key)
			want := dataText(second)
			keyName := slices.Clone(first.KeyName.Parts)
			scribbleParts(first.Name)
			if !slices.Equal(first.KeyName.Parts, keyName) {
				t.Errorf("SignWithKey of %s: the names share memory", dataText(x))
			}
			scribbleData(first)
			g.check(t, "SignWithKey, its result changed")
			data.check(t, "SignWithKey, its result changed")
			if dataText(second) != want {
				t.Errorf("SignWithKey of %s: two results share memory", dataText(x))
			}
		}
		last := sign(data.data.KeyName)
		want := dataText(last)
		scribbleData(data.data)
		scribbleKeys(g.slice)
		if dataText(last) != want {
			t.Errorf("SignWithKey of %s shares memory with its arguments", dataText(x))
		}
	}
}

// The two names of the data are apart, also where the arguments are one name.
func TestNamesOfDataSignedWithKeysAreApart(t *testing.T) {
	n := nameOf("a", "b", "c")
	for _, key := range []impl.Name{n, {Parts: n.Parts[:2]}, {Parts: n.Parts[1:]}} {
		signed, ok := impl.SignWithKey([]impl.Key{{Name: key, Secret: 5}}, key, n, nil, 50)
		want := slices.Clone(signed.KeyName.Parts)
		scribbleParts(signed.Name)
		if !ok || !slices.Equal(signed.KeyName.Parts, want) || !slices.Equal(want, key.Parts) || !slices.Equal(n.Parts, []string{"a", "b", "c"}) {
			t.Errorf("SignWithKey of %q = %s, %v; the name is then %q", key.Parts, dataText(signed), ok, n.Parts)
		}
	}
}

func TestMatchingKeysAreNewMemory(t *testing.T) {
	x := dataOf("/a/1", "hi", "/a/key", 50, 1657330497) // signed with 5
	for _, secrets := range [][]int{nil, {5}, {6}, {6, 5, 5}, {5, 5, 5, 5, 5, 5, 5, 5}} {
		g := guardKeys(secretKeys(secrets...))
		first, second := impl.MatchingKeys(g.slice, x), impl.MatchingKeys(g.slice, x)
		want := slices.Clone(second)
		scribble(first)
		g.check(t, "MatchingKeys, its result changed")
		if !slices.Equal(second, want) {
			t.Errorf("MatchingKeys of the secrets %v: two results share memory", secrets)
		}
	}
}

// What lies behind the last key, and behind the parts of a name, counts for nothing.
func TestSpareKeysAreNotRead(t *testing.T) {
	n := impl.Name{Parts: []string{"a", "b", "C"}[:1]}
	l := []impl.Key{{Name: n, Secret: 5}, keyOf("/b", 6), keyOf("/b", 5), keyOf("/A", 0)}[:1]
	if !impl.ValidKeys(l) || impl.FormatKeys(l) != "/a" {
		t.Errorf("ValidKeys = %v, FormatKeys = %q", impl.ValidKeys(l), impl.FormatKeys(l))
	}
	for _, s := range []string{"/b", "/A", "/a/b"} {
		if got := impl.SecretOf(l, named(s)); got != 0 {
			t.Errorf("SecretOf %q = %d", s, got)
		}
		checkNotSigned(t, l, named(s), named("/a/1"), nil, 50)
	}
	x, ok := impl.SignWithKey(l, n, named("/a/1"), []byte("hi")[:1], 50)
	want := dataOf("/a/1", "h", "/a", 50, 0)
	want.Signature = wantMAC(5, wantPortion(want))
	if dataText(x) != dataText(want) || !ok || !impl.VerifySignature(l, x) || impl.SecretOf(l, named("/a")) != 5 || impl.SecretOf(keysOf("/a/b"), n) != 0 {
		t.Errorf("SignWithKey = %s, %v", dataText(x), ok)
	}
	checkMatching(t, l, want, 0)
	want.Signature = wantMAC(6, wantPortion(want))
	checkMatching(t, l, want)
	checkAdd(t, l, keyOf("/b", 6), true)
	checkAdd(t, l, keyOf("/a", 6), false)
	if !impl.ValidKeys(make([]impl.Key, 20)[:0]) || !impl.ValidKeys(numberedKeys(9)[:8]) {
		t.Error("ValidKeys of a part of a list = false")
	}
}
