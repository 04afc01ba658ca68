package tests

import (
	"bytes"
	"fmt"
	"math"
	"slices"
	"strings"
	"testing"

	"loop.example/g00507/impl"
)

// resigned is x with the signature of the key that it names, whether its secret is valid or not.
func resigned(l []impl.Key, x impl.Data) impl.Data {
	x.Signature = wantMAC(model9Secret(l, x.KeyName), wantPortion(x))
	return x
}

// dataBy are data that are signed by a key of l.
func dataBy(l []impl.Key, key string, name string) impl.Data {
	return resigned(l, dataOf(name, "hi", key, 900, 0))
}

// certsOf makes certificates of texts like "/a/key < /root": the name of the key, and of the one that signs. They are fresh until 500.
func certsOf(l []impl.Key, texts ...string) []impl.Data {
	certificates := []impl.Data{}
	for _, s := range texts {
		name, key, _ := strings.Cut(s, " < ")
		x := impl.Data{Name: named(name), Content: wantKeyDigest(l, named(name)), KeyName: named(key), FreshUntil: 500}
		certificates = append(certificates, resigned(l, x))
	}
	return certificates
}

func namesOf(texts ...string) []impl.Name {
	l := []impl.Name{}
	for _, s := range texts {
		l = append(l, named(s))
	}
	return l
}

// namesText is the same for equal lists of names only.
func namesText(l []impl.Name) string {
	text := ""
	for _, n := range l {
		text += fmt.Sprintf("%q ", n.Parts)
	}
	return text
}

// datasText is the same for equal lists of data only.
func datasText(l []impl.Data) string {
	text := ""
	for _, x := range l {
		text += dataText(x) + "; "
	}
	return text
}

func trustText(t impl.TrustPolicy) string {
	return fmt.Sprintf("{%s| %s| %s| %s}", keysText(t.Keys), rulesText(t.Rules), namesText(t.Anchors), datasText(t.Certificates))
}

// trustABC is a policy in which the key of each first component signs its names, /root signs these keys, but for /c/key, which has no certificate, and /root is the anchor.
func trustABC() impl.TrustPolicy {
	l := keysOf("/root", "/a/key", "/b/key", "/c/key")
	return impl.TrustPolicy{Keys: l, Rules: rulesOf("/?x/key < /root", "/?x/** < /?x/key"), Anchors: namesOf("/root"), Certificates: certsOf(l, "/a/key < /root", "/b/key < /root")}
}

// trustRow is a policy with a row of keys, each with a certificate signed by the next one; the last one is the anchor. Every key may sign everything.
func trustRow(length int) impl.TrustPolicy {
	t := impl.TrustPolicy{Keys: numberedKeys(length), Rules: rulesOf("/** < /**")}
	for i := range length - 1 {
		t.Certificates = append(t.Certificates, certsOf(t.Keys, fmt.Sprintf("/n%03d < /n%03d", i, i+1))...)
	}
	t.Anchors = []impl.Name{numberedName(length - 1)}
	return t
}

// rowTexts are the names of the keys from one to another, which it includes.
func rowTexts(from, to int) []string {
	texts := []string{}
	for i := from; i <= to; i++ {
		texts = append(texts, fmt.Sprintf("/n%03d", i))
	}
	return texts
}

// The model follows the document's words without the program.
func wantKeyDigest(l []impl.Key, n impl.Name) []byte {
	secret := model9Secret(l, n)
	if secret == 0 {
		return nil
	}
	return wantVarint(wantDigest([]int{secret}))
}

func model11Find(t impl.TrustPolicy, n impl.Name, now int) int {
	if model9Secret(t.Keys, n) == 0 {
		return -1
	}
	return slices.IndexFunc(t.Certificates, func(x impl.Data) bool {
		return slices.Equal(x.Name.Parts, n.Parts) && now <= x.FreshUntil && bytes.Equal(x.Content, wantKeyDigest(t.Keys, n)) && model9Verifies(model9Secret(t.Keys, x.KeyName), x)
	})
}

func model11Anchor(t impl.TrustPolicy, n impl.Name) bool {
	return slices.ContainsFunc(t.Anchors, func(m impl.Name) bool { return slices.Equal(m.Parts, n.Parts) })
}

// model11Chain returns no names if there is no chain of at most so many names.
func model11Chain(t impl.TrustPolicy, x impl.Data, now int, most int) []impl.Name {
	isAllowed := slices.ContainsFunc(t.Rules, func(r impl.Rule) bool {
		return model10Allows(r.DataPattern.Parts, r.KeyPattern.Parts, x.Name.Parts, x.KeyName.Parts)
	})
	if most == 0 || !isAllowed || !model9Verifies(model9Secret(t.Keys, x.KeyName), x) {
		return nil
	}
	if model11Anchor(t, x.KeyName) {
		return []impl.Name{x.KeyName}
	}
	at := model11Find(t, x.KeyName, now)
	if at < 0 {
		return nil
	}
	rest := model11Chain(t, t.Certificates[at], now, most-1)
	if rest == nil {
		return nil
	}
	return slices.Concat([]impl.Name{x.KeyName}, rest)
}

func wantValidData(x impl.Data) bool {
	return wantValidName(x.Name) && len(x.Name.Parts) > 0 && len(x.Content) <= 60 && wantValidName(x.KeyName) && x.FreshUntil >= 0 && x.FreshUntil <= 100000 && x.Signature >= 0 && x.Signature <= 2147483646
}

// checkChain wants a chain of these names, or none if there are no names; data with a chain are trusted if they are valid.
func checkChain(t *testing.T, w impl.TrustPolicy, x impl.Data, now int, want ...string) {
	t.Helper()
	l, ok := impl.TrustChain(w, x, now)
	if namesText(l) != namesText(namesOf(want...)) || ok != (len(want) > 0) {
		t.Errorf("TrustChain(%s, %s, %d) = %s, %v, want %q", trustText(w), dataText(x), now, namesText(l), ok, want)
	}
	checkTrusted(t, w, x, now, len(want) > 0 && wantValidData(x))
}

func checkTrusted(t *testing.T, w impl.TrustPolicy, x impl.Data, now int, want bool) {
	t.Helper()
	if got := impl.IsTrusted(w, x, now); got != want {
		t.Errorf("IsTrusted(%s, %s, %d) = %v", trustText(w), dataText(x), now, got)
	}
}

// checkModel holds TrustChain and IsTrusted against the model, and reports whether there is a chain.
func checkModel(t *testing.T, w impl.TrustPolicy, x impl.Data, now int) bool {
	t.Helper()
	texts := []string{}
	for _, n := range model11Chain(w, x, now, 4) {
		texts = append(texts, "/"+strings.Join(n.Parts, "/"))
	}
	checkChain(t, w, x, now, texts...)
	return len(texts) > 0
}

func checkFind(t *testing.T, w impl.TrustPolicy, n impl.Name, now int, want int) {
	t.Helper()
	if got := impl.FindCertificate(w, n, now); got != want {
		t.Errorf("FindCertificate(%s, %q, %d) = %d, want %d", trustText(w), n.Parts, now, got, want)
	}
}

func TestTheLimitsOfTrustAreThoseOfTheDocument(t *testing.T) {
	if impl.MaxDepth != 4 || impl.MaxCertificates != 8 {
		t.Errorf("MaxDepth = %d, MaxCertificates = %d", impl.MaxDepth, impl.MaxCertificates)
	}
}

func checkValidTrust(t *testing.T, w impl.TrustPolicy, want bool) {
	t.Helper()
	if got := impl.ValidTrust(w); got != want {
		t.Errorf("ValidTrust(%s) = %v", trustText(w), got)
	}
}

func TestValidTrust(t *testing.T) {
	for _, keys := range emptyKeys {
		for _, rules := range emptyRules {
			for _, anchors := range [][]impl.Name{nil, {}, namesOf("/a")[:0]} {
				for _, certificates := range [][]impl.Data{nil, {}, validDatas()[:0]} {
					checkValidTrust(t, impl.TrustPolicy{Keys: keys, Rules: rules, Anchors: anchors, Certificates: certificates}, true)
				}
			}
		}
	}
	checkValidTrust(t, trustABC(), true)
	for length := 1; length <= 8; length++ {
		checkValidTrust(t, trustRow(length), true)
	}
	// Each list may be empty while the others are not; only anchors need keys.
	w := trustABC()
	w.Rules = nil
	checkValidTrust(t, w, true)
	w.Anchors = nil
	checkValidTrust(t, w, true)
	w.Keys = nil
	checkValidTrust(t, w, true)
	w = trustABC()
	w.Certificates = nil
	checkValidTrust(t, w, true)
	w.Keys = nil
	checkValidTrust(t, w, false)
}

func TestValidTrustOfEachLength(t *testing.T) {
	for _, length := range []int{0, 1, 2, 7, 8, 9, 10, 16, 256, 256 + 7} {
		want := length <= 8
		w := trustABC()
		w.Keys = append(numberedKeys(length), keyOf("/root", 5))[:length]
		w.Anchors = nil
		checkValidTrust(t, w, want)
		w = trustABC()
		w.Rules = numberedRules(length)
		checkValidTrust(t, w, want)
		// A name may occur several times among the anchors, and so may a certificate.
		w = trustABC()
		w.Anchors = slices.Repeat(namesOf("/a/key"), length)
		checkValidTrust(t, w, want)
		w = trustABC()
		w.Certificates = slices.Repeat(w.Certificates[:1], length)
		checkValidTrust(t, w, want)
	}
	w := trustRow(8)
	for length := range 9 {
		w.Anchors = namesOf(rowTexts(0, 7)[:length]...)
		checkValidTrust(t, w, true)
	}
	w.Anchors = namesOf(append(rowTexts(0, 7), "/n000")...)
	checkValidTrust(t, w, false)
}

func TestValidTrustOfEachKeyAndRule(t *testing.T) {
	for _, l := range shortKeys() {
		checkValidTrust(t, impl.TrustPolicy{Keys: l}, model9Valid(l))
		for _, n := range []impl.Name{nameOf("a"), nameOf("b"), nameOf("a", "b"), nameOf("a/b"), {}} {
			want := model9Valid(l) && model9Secret(l, n) != 0
			checkValidTrust(t, impl.TrustPolicy{Keys: l, Anchors: []impl.Name{n}}, want)
		}
	}
	for _, s := range validRuleTexts {
		w := trustABC()
		w.Rules = append(w.Rules, ruleOf(s))
		checkValidTrust(t, w, true)
	}
	for _, s := range slices.Concat(unboundRuleTexts, brokenRuleTexts) {
		w := trustABC()
		w.Rules = append(w.Rules, ruleOf(s))
		checkValidTrust(t, w, false)
		w.Rules = rulesOf(s)
		checkValidTrust(t, w, false)
	}
}

// Each anchor is the name of a key, wherever it is among the anchors.
func TestValidTrustOfEachAnchor(t *testing.T) {
	w := trustRow(8)
	others := slices.Concat(emptyNames, notNames, ascendingNames, namesOf("/n00", "/n0000", "/n008", "/n000/a", "/a/n000", "/N000", "/n000/", "//n000"))
	for _, n := range others {
		for length := 1; length <= 8; length++ {
			for at := range length {
				w.Anchors = namesOf(rowTexts(0, length-1)...)
				checkValidTrust(t, w, true)
				w.Anchors[at] = n
				checkValidTrust(t, w, false)
			}
		}
	}
	// A name may have a certificate, and still no key.
	w = trustRow(3)
	w.Certificates = append(w.Certificates, dataBy(w.Keys, "/n000", "/z"))
	w.Anchors = namesOf("/z")
	checkValidTrust(t, w, false)
}

func TestValidTrustOfEachCertificate(t *testing.T) {
	// Whether certificates are fresh, verify, or have a KeyDigest, does not matter.
	for i, x := range validDatas() {
		if i%7 == 0 {
			w := trustABC()
			w.Certificates = append(w.Certificates, x)
			checkValidTrust(t, w, true)
			checkValidTrust(t, impl.TrustPolicy{Certificates: []impl.Data{x}}, true)
		}
	}
	for _, x := range invalidDatas() {
		checkValidTrust(t, impl.TrustPolicy{Certificates: []impl.Data{x}}, false)
		for length := 1; length <= 8; length++ {
			for at := range length {
				w := trustRow(8)
				w.Certificates = slices.Repeat(w.Certificates[:1], length)
				w.Certificates[at] = x
				checkValidTrust(t, w, false)
			}
		}
	}
}

func checkKeyDigest(t *testing.T, l []impl.Key, n impl.Name, want []byte) {
	t.Helper()
	if got := impl.KeyDigest(l, n); !bytes.Equal(got, want) {
		t.Errorf("KeyDigest(%s, %q) = %v, want %v", keysText(l), n.Parts, got, want)
	}
}

func TestKeyDigest(t *testing.T) {
	cases := []struct {
		secret int
		want   []byte
	}{
		{1, []byte{239, 177, 159, 5}}, {5, []byte{243, 177, 159, 5}}, {101, []byte{211, 178, 159, 5}}, {102, []byte{212, 178, 159, 5}}, {impl.Prime - 1, []byte{237, 177, 159, 5}},
		// The digests 0, 1, 127, 128, 16383, 16384 and Prime - 1: that of 0 is not empty.
		{2136483601, []byte{0}}, {2136483602, []byte{1}}, {2136483728, []byte{127}}, {2136483729, []byte{128, 1}}, {2136499984, []byte{255, 127}}, {2136499985, []byte{128, 128, 1}}, {2136483600, []byte{254, 255, 255, 255, 7}},
		// A secret that is not valid has a digest, too, unless it is 0.
		{0, nil}, {-5, []byte{233, 177, 159, 5}}, {impl.Prime, []byte{238, 177, 159, 5}}, {-impl.Prime, []byte{238, 177, 159, 5}}, {impl.Prime + 5, []byte{243, 177, 159, 5}},
	}
	for _, c := range cases {
		checkKeyDigest(t, []impl.Key{keyOf("/a", c.secret)}, nameOf("a"), c.want)
		checkKeyDigest(t, []impl.Key{keyOf("/b", 77), keyOf("/a", c.secret), keyOf("/a", 78)}, nameOf("a"), c.want)
		checkKeyDigest(t, []impl.Key{keyOf("/b", c.secret), {Secret: c.secret}, keyOf("/a/a", c.secret)}, nameOf("a"), nil)
	}
	for _, secret := range slices.Concat(allSecrets(), anyIntegers) {
		l := []impl.Key{keyOf("/a", secret)}
		checkKeyDigest(t, l, nameOf("a"), wantKeyDigest(l, nameOf("a")))
	}
}

func TestKeyDigestOfEachName(t *testing.T) {
	names := slices.Concat(sameTexts, ascendingNames, notNames, emptyNames)
	for _, l := range slices.Concat(emptyKeys, [][]impl.Key{keysOf("/a", "/a/b"), keysOf("/", "/A"), numberedKeys(300)}) {
		for _, n := range append(names, numberedName(0), numberedName(7), numberedName(299), numberedName(300)) {
			checkKeyDigest(t, l, n, wantKeyDigest(l, n))
		}
	}
	for _, l := range shortKeys() {
		for _, s := range []string{"/a", "/b", "/a/b", "/", "/c"} {
			checkKeyDigest(t, l, named(s), wantKeyDigest(l, named(s)))
		}
	}
}

// changedCertificates are those that come of a certificate of /a/key in trustABC, and serve no longer at the time 500; all but the last ones are signed again.
func changedCertificates() []impl.Data {
	w := trustABC()
	good := w.Certificates[0]
	all := []impl.Data{}
	for _, s := range []string{"/b/key", "/root", "/a", "/a/key/1", "/a/keys", "/key/a", "/", "/A"} {
		x := good
		x.Name = named(s)
		all = append(all, x)
	}
	for _, b := range [][]byte{nil, {}, {0}, []byte("hi"), good.Content[:3], append(slices.Clone(good.Content), 0), with(good.Content, 0, 210), with(good.Content, 3, 6), wantKeyDigest(w.Keys, nameOf("root")), wantKeyDigest(w.Keys, nameOf("b", "key")), counting(60), counting(61)} {
		x := good
		x.Content = b
		all = append(all, x)
	}
	for _, until := range []int{499, 498, 1, 0, -1, math.MinInt} {
		x := good
		x.FreshUntil = until
		all = append(all, x)
	}
	// Without a key of this name, the secret is 0.
	for _, s := range []string{"/z", "/", "/A", "/root/root", "/a"} {
		x := good
		x.KeyName = named(s)
		all = append(all, x)
	}
	for i, x := range all {
		all[i] = resigned(w.Keys, x)
	}
	for _, signature := range []int{good.Signature + 1, good.Signature - 1, good.Signature + impl.Prime, -good.Signature, 0, impl.Prime - 1, wantMAC(102, wantPortion(good)), wantMAC(0, wantPortion(good))} {
		x := good
		x.Signature = signature
		all = append(all, x)
	}
	// The content, the name, the time, or the name of the key is changed behind the signature.
	unsigned, until := good, good
	unsigned.KeyName = named("/b/key")
	until.FreshUntil = 501
	return append(all, unsigned, until, impl.Data{})
}

func TestFindCertificate(t *testing.T) {
	w := trustABC()
	n := nameOf("a", "key")
	for now := 400; now <= 600; now++ {
		want := 0
		if now > 500 {
			want = -1
		}
		checkFind(t, w, n, now, want)
	}
	for _, now := range []int{0, -1, -500, math.MinInt} {
		checkFind(t, w, n, now, 0)
		checkFind(t, w, nameOf("b", "key"), now, 1)
		// The anchor and /c/key have keys, but no certificates; the others have no keys.
		for _, s := range []string{"/root", "/c/key", "/", "/a", "/a/key/1", "/key", "/z", "/A", "/a/keys"} {
			checkFind(t, w, named(s), now, -1)
		}
	}
	for _, now := range []int{501, 1000000, math.MaxInt} {
		checkFind(t, w, n, now, -1)
	}
	for _, none := range emptyNames {
		checkFind(t, w, none, 50, -1)
	}
	checkFind(t, impl.TrustPolicy{}, impl.Name{}, 0, -1)
	checkFind(t, impl.TrustPolicy{Keys: w.Keys}, n, 0, -1)
	checkFind(t, impl.TrustPolicy{Certificates: w.Certificates}, n, 0, -1)
	// Neither the rules nor the anchors matter.
	checkFind(t, impl.TrustPolicy{Keys: w.Keys, Certificates: w.Certificates}, n, 0, 0)
}

// A certificate that does not serve is passed over, wherever it is.
func TestFindCertificateAmongOthers(t *testing.T) {
	w := trustABC()
	n, good := nameOf("a", "key"), w.Certificates[0]
	for _, bad := range changedCertificates() {
		for _, c := range []struct {
			l    []impl.Data
			want int
		}{
			{[]impl.Data{bad}, -1}, {[]impl.Data{bad, bad}, -1}, {[]impl.Data{good, bad}, 0}, {[]impl.Data{bad, good}, 1}, {[]impl.Data{bad, good, good}, 1}, {[]impl.Data{bad, bad, bad, good, bad}, 3}, {append(slices.Repeat([]impl.Data{bad}, 300), good), 300},
		} {
			w.Certificates = c.l
			checkFind(t, w, n, 500, c.want)
		}
	}
	// The first one that serves is the one, whatever the other ones have.
	later := good
	later.FreshUntil = 700
	later = resigned(w.Keys, later)
	w.Certificates = []impl.Data{good, later}
	checkFind(t, w, n, 500, 0)
	checkFind(t, w, n, 501, 1)
	checkFind(t, w, n, 700, 1)
	checkFind(t, w, n, 701, -1)
	w.Certificates = []impl.Data{later, good}
	checkFind(t, w, n, 500, 0)
	checkFind(t, w, n, 501, 0)
}

// A certificate may be signed by any key, also by that which it is of; it need not be allowed.
func TestFindCertificateSignedByEachKey(t *testing.T) {
	l := keysOf("/root", "/a/key", "/b/key", "/c/key")
	for _, s := range []string{"/root", "/a/key", "/b/key", "/c/key"} {
		for _, m := range []string{"/root", "/a/key", "/b/key", "/c/key"} {
			w := impl.TrustPolicy{Keys: l, Certificates: certsOf(l, s+" < "+m)}
			for _, n := range []string{"/root", "/a/key", "/b/key", "/c/key", "/d/key"} {
				want := 0
				if n != s {
					want = -1
				}
				checkFind(t, w, named(n), 500, want)
			}
		}
	}
}

func TestFindCertificateOfANameWithoutAKey(t *testing.T) {
	// The KeyDigest of such a name is empty, and so is the content of this certificate.
	l := []impl.Key{keyOf("/root", 5), keyOf("/zero", 0), keyOf("/zero", 6)}
	for _, s := range []string{"/z", "/zero", "/", "/A", "/root/a"} {
		w := impl.TrustPolicy{Keys: l, Certificates: certsOf(l, s+" < /root"), Anchors: namesOf("/root"), Rules: rulesOf("/** < /**")}
		if len(w.Certificates[0].Content) != 0 {
			t.Errorf("the certificate of %q has the content %v", s, w.Certificates[0].Content)
		}
		checkFind(t, w, named(s), 0, -1)
		w.Certificates = append(w.Certificates, resigned(l, dataOf(s, "hi", "/root", 500, 0)), resigned(l, impl.Data{Name: named(s), Content: wantVarint(wantDigest([]int{0})), KeyName: nameOf("root"), FreshUntil: 500}))
		checkFind(t, w, named(s), 0, -1)
		// It is found as soon as there is a key.
		w.Keys = []impl.Key{keyOf("/root", 5), keyOf(s, 7)}
		checkFind(t, w, named(s), 0, -1)
		w.Certificates = append(w.Certificates, certsOf(w.Keys, s+" < /root")...)
		checkFind(t, w, named(s), 0, 3)
	}
}

// Neither the keys nor the certificates need be valid.
func TestFindCertificateOfInvalidPolicies(t *testing.T) {
	for _, secret := range allSecrets() {
		l := []impl.Key{keyOf("/root", 5), keyOf("/a", secret), keyOf("/a", 7)}
		w := impl.TrustPolicy{Keys: l, Certificates: certsOf(l, "/a < /root")}
		want := 0
		if secret == 0 {
			want = -1
		}
		checkFind(t, w, nameOf("a"), 500, want)
		// A secret that is not valid verifies nothing.
		l = []impl.Key{keyOf("/root", secret), keyOf("/a", 7)}
		w = impl.TrustPolicy{Keys: l, Certificates: certsOf(l, "/a < /root")}
		want = 0
		if slices.Contains(invalidSecrets, secret) {
			want = -1
		}
		checkFind(t, w, nameOf("a"), 500, want)
	}
	for _, until := range notTimes {
		w := trustABC()
		w.Certificates[0].FreshUntil = until
		w.Certificates[0] = resigned(w.Keys, w.Certificates[0])
		checkFind(t, w, nameOf("a", "key"), until, 0)
		checkFind(t, w, nameOf("a", "key"), math.MinInt, 0)
		if until < math.MaxInt {
			checkFind(t, w, nameOf("a", "key"), until+1, -1)
			checkFind(t, w, nameOf("a", "key"), math.MaxInt, -1)
		}
	}
	for _, n := range slices.Concat(emptyNames, sameTexts, notNames) {
		l := []impl.Key{keyOf("/root", 5), {Name: n, Secret: 6}}
		x := resigned(l, impl.Data{Name: n, Content: wantKeyDigest(l, n), KeyName: nameOf("root"), FreshUntil: 500})
		w := impl.TrustPolicy{Keys: l, Certificates: []impl.Data{x}}
		for _, m := range slices.Concat(emptyNames, sameTexts, notNames) {
			checkFind(t, w, m, 500, model11Find(w, m, 500))
		}
		checkFind(t, w, n, 500, 0)
		checkFind(t, w, n, 501, -1)
	}
}

func TestIsAnchor(t *testing.T) {
	all := slices.Concat(sameTexts, ascendingNames)
	for i, a := range all {
		for j, b := range all {
			w := impl.TrustPolicy{Anchors: []impl.Name{a}}
			if got, want := impl.IsAnchor(w, b), slices.Equal(a.Parts, b.Parts); got != want {
				t.Errorf("IsAnchor(%q, %q) = %v, at %d and %d", a.Parts, b.Parts, got, i, j)
			}
		}
		for _, none := range [][]impl.Name{nil, {}, all[:0]} {
			if impl.IsAnchor(impl.TrustPolicy{Keys: []impl.Key{{Name: a, Secret: 5}}, Anchors: none}, a) {
				t.Errorf("IsAnchor without anchors and %q = true", a.Parts)
			}
		}
		if !impl.IsAnchor(impl.TrustPolicy{Anchors: all}, impl.Name{Parts: slices.Clone(a.Parts)}) {
			t.Errorf("IsAnchor of all names and %q = false", a.Parts)
		}
	}
	for _, a := range emptyNames {
		for _, b := range emptyNames {
			if !impl.IsAnchor(impl.TrustPolicy{Anchors: []impl.Name{a}}, b) {
				t.Errorf("IsAnchor of the empty names %#v and %#v = false", a.Parts, b.Parts)
			}
		}
	}
	for _, length := range []int{1, 2, 7, 8, 9, 300} {
		w := impl.TrustPolicy{}
		for i := range length {
			w.Anchors = append(w.Anchors, numberedName(i))
		}
		for i := range length + 2 {
			if got := impl.IsAnchor(w, numberedName(i)); got != (i < length) {
				t.Errorf("IsAnchor of %d anchors and name %d = %v", length, i, got)
			}
		}
	}
}

func TestTrustChain(t *testing.T) {
	w := trustABC()
	for _, now := range []int{0, 50, 500, -1, math.MinInt} {
		checkChain(t, w, dataBy(w.Keys, "/a/key", "/a/1"), now, "/a/key", "/root")
		checkChain(t, w, dataBy(w.Keys, "/a/key", "/a"), now, "/a/key", "/root")
		checkChain(t, w, dataBy(w.Keys, "/a/key", "/a/b/c/d/e/f"), now, "/a/key", "/root")
		checkChain(t, w, dataBy(w.Keys, "/b/key", "/b/1"), now, "/b/key", "/root")
		checkChain(t, w, dataBy(w.Keys, "/a/key", "/a/key"), now, "/a/key", "/root")
		// The anchor signs itself what it may sign.
		checkChain(t, w, dataBy(w.Keys, "/root", "/a/key"), now, "/root")
		checkChain(t, w, dataBy(w.Keys, "/root", "/z/key"), now, "/root")
		checkChain(t, w, w.Certificates[0], now, "/root")
		// The key is not allowed for the name.
		for _, s := range []string{"/b/1", "/b", "/1/a", "/", "/root"} {
			checkChain(t, w, dataBy(w.Keys, "/a/key", s), now)
		}
		for _, s := range []string{"/a/1", "/a", "/root", "/root/1", "/key", "/a/key/1", "/"} {
			checkChain(t, w, dataBy(w.Keys, "/root", s), now)
		}
		// The key has no certificate; or it is no key.
		checkChain(t, w, dataBy(w.Keys, "/c/key", "/c/1"), now)
		checkChain(t, w, dataBy(w.Keys, "/d/key", "/d/1"), now)
		checkChain(t, w, impl.Data{}, now)
		checkChain(t, impl.TrustPolicy{}, impl.Data{}, now)
		checkChain(t, impl.TrustPolicy{}, dataBy(w.Keys, "/a/key", "/a/1"), now)
	}
	for _, now := range []int{501, 502, 900, 1000000, math.MaxInt} {
		checkChain(t, w, dataBy(w.Keys, "/a/key", "/a/1"), now)
		// An anchor needs no certificate.
		checkChain(t, w, dataBy(w.Keys, "/root", "/a/key"), now, "/root")
	}
}

// The data themselves need not be fresh.
func TestTrustChainOfEachTime(t *testing.T) {
	w := trustABC()
	for _, until := range times {
		x := resigned(w.Keys, dataOf("/a/1", "hi", "/a/key", until, 0))
		for now := 490; now <= 500; now++ {
			checkChain(t, w, x, now, "/a/key", "/root")
		}
		for now := 501; now <= 510; now++ {
			checkChain(t, w, x, now)
		}
	}
	// Each certificate of a chain has its own time.
	w = trustRow(4)
	x := dataBy(w.Keys, "/n000", "/z")
	for at := range 3 {
		w := trustRow(4)
		w.Certificates[at].FreshUntil = 100
		w.Certificates[at] = resigned(w.Keys, w.Certificates[at])
		checkChain(t, w, x, 100, rowTexts(0, 3)...)
		checkChain(t, w, x, 101)
	}
	checkChain(t, w, x, 101, rowTexts(0, 3)...)
}

func TestTrustChainOfEachLength(t *testing.T) {
	for length := 1; length <= 8; length++ {
		w := trustRow(length)
		checkValidTrust(t, w, true)
		for from := range length {
			x := dataBy(w.Keys, fmt.Sprintf("/n%03d", from), "/z")
			if length-from <= 4 {
				checkChain(t, w, x, 50, rowTexts(from, length-1)...)
			} else {
				checkChain(t, w, x, 50)
			}
			// The chain ends at the first anchor, which may have a certificate.
			for anchor := range length {
				w.Anchors = []impl.Name{numberedName(anchor)}
				if anchor < from || anchor-from >= 4 {
					checkChain(t, w, x, 50)
					continue
				}
				checkChain(t, w, x, 50, rowTexts(from, anchor)...)
				w.Anchors = []impl.Name{numberedName(length - 1), numberedName(anchor)}
				checkChain(t, w, x, 50, rowTexts(from, anchor)...)
			}
			w.Anchors = []impl.Name{numberedName(length - 1)}
		}
	}
	// The certificates may be in any order.
	w := trustRow(4)
	slices.Reverse(w.Certificates)
	checkChain(t, w, dataBy(w.Keys, "/n000", "/z"), 50, rowTexts(0, 3)...)
	w = trustRow(300)
	checkChain(t, w, dataBy(w.Keys, "/n000", "/z"), 50)
	checkChain(t, w, dataBy(w.Keys, "/n295", "/z"), 50)
	checkChain(t, w, dataBy(w.Keys, "/n296", "/z"), 50, rowTexts(296, 299)...)
}

// With one name too many, a chain is broken, although each of its links serves.
func TestTrustChainOneTooLong(t *testing.T) {
	w := trustRow(5)
	checkChain(t, w, dataBy(w.Keys, "/n000", "/z"), 50)
	checkChain(t, w, dataBy(w.Keys, "/n001", "/z"), 50, rowTexts(1, 4)...)
	// The certificates are data, too.
	for i, x := range w.Certificates {
		checkChain(t, w, x, 50, rowTexts(i+1, 4)...)
	}
	w.Anchors = namesOf("/n004", "/n003")
	checkChain(t, w, dataBy(w.Keys, "/n000", "/z"), 50, rowTexts(0, 3)...)
	w.Anchors = namesOf("/n004", "/n004", "/n000")
	checkChain(t, w, dataBy(w.Keys, "/n000", "/z"), 50, "/n000")
}

// Certificates that sign each other reach no anchor outside the circle.
func TestTrustChainOfACircle(t *testing.T) {
	for length := 1; length <= 8; length++ {
		w := trustRow(length)
		w.Certificates = append(w.Certificates, certsOf(w.Keys, fmt.Sprintf("/n%03d < /n000", length-1))...)
		w.Anchors = nil
		for from := range length {
			x := dataBy(w.Keys, fmt.Sprintf("/n%03d", from), "/z")
			w.Anchors = nil
			checkChain(t, w, x, 50)
			for anchor := range length {
				w.Anchors = []impl.Name{numberedName(anchor)}
				want := []string{}
				for i := range (anchor-from+length)%length + 1 {
					want = append(want, fmt.Sprintf("/n%03d", (from+i)%length))
				}
				if len(want) > 4 {
					want = nil
				}
				checkChain(t, w, x, 50, want...)
			}
		}
	}
	// The circle begins behind some other keys.
	w := trustRow(4)
	w.Keys = append(w.Keys, keyOf("/root", 5))
	w.Anchors = namesOf("/root")
	w.Certificates = append(w.Certificates, certsOf(w.Keys, "/n003 < /n001")...)
	checkChain(t, w, dataBy(w.Keys, "/n000", "/z"), 50)
	checkChain(t, w, dataBy(w.Keys, "/root", "/z"), 50, "/root")
	// A certificate by the anchor changes nothing behind the other one, and breaks the circle in front of it.
	w.Certificates = append(w.Certificates, certsOf(w.Keys, "/n003 < /root")...)
	checkChain(t, w, dataBy(w.Keys, "/n003", "/z"), 50)
	slices.Reverse(w.Certificates)
	checkChain(t, w, dataBy(w.Keys, "/n003", "/z"), 50, "/n003", "/root")
	checkChain(t, w, dataBy(w.Keys, "/n001", "/z"), 50, "/n001", "/n002", "/n003", "/root")
	checkChain(t, w, dataBy(w.Keys, "/n000", "/z"), 50)
}

func TestTrustChainOfAnchors(t *testing.T) {
	w := trustABC()
	x := dataBy(w.Keys, "/a/key", "/a/1")
	// Each key may be an anchor, with a certificate of its own and without one.
	for _, c := range []struct {
		anchors []string
		want    []string
	}{
		{nil, nil}, {[]string{"/a/key"}, []string{"/a/key"}}, {[]string{"/root"}, []string{"/a/key", "/root"}}, {[]string{"/root", "/a/key"}, []string{"/a/key"}}, {[]string{"/a/key", "/root"}, []string{"/a/key"}}, {[]string{"/b/key"}, nil}, {[]string{"/c/key", "/b/key"}, nil}, {[]string{"/b/key", "/c/key", "/root"}, []string{"/a/key", "/root"}},
		{[]string{"/a"}, nil}, {[]string{"/a/1"}, nil}, {[]string{"/"}, nil}, {[]string{"/a/key/1", "/key", "/z"}, nil}, {[]string{"/A", "/root"}, []string{"/a/key", "/root"}},
	} {
		w.Anchors = namesOf(c.anchors...)
		checkChain(t, w, x, 50, c.want...)
		w.Anchors = slices.Repeat(w.Anchors, 20)
		checkChain(t, w, x, 50, c.want...)
		w.Certificates = nil
		if len(c.want) == 2 {
			c.want = nil
		}
		checkChain(t, w, x, 50, c.want...)
		w.Certificates = trustABC().Certificates
	}
	// An anchor that is the name of no key signs nothing.
	w.Rules = rulesOf("/** < /**")
	for _, n := range slices.Concat(emptyNames, notNames, dataNames) {
		w.Anchors = []impl.Name{n}
		checkChain(t, w, resigned(w.Keys, impl.Data{Name: nameOf("a", "1"), KeyName: n, FreshUntil: 900}), 50)
	}
	// The empty name is no valid name of a key, but an anchor can have it.
	for _, n := range emptyNames {
		v := impl.TrustPolicy{Keys: []impl.Key{{Secret: 5}}, Rules: rulesOf("/** < /**"), Anchors: []impl.Name{n}}
		checkChain(t, v, dataBy(v.Keys, "/", "/a/1"), 50, "/")
	}
}

// A chain breaks if one of its links does, wherever this is.
func TestTrustChainWithABrokenLink(t *testing.T) {
	for length := 1; length <= 4; length++ {
		for at := range length {
			for what, change := range brokenLinks(at) {
				w := trustRow(length)
				x := dataBy(w.Keys, "/n000", "/z")
				checkChain(t, w, x, 50, rowTexts(0, length-1)...)
				change(&w, &x)
				l, ok := impl.TrustChain(w, x, 50)
				if len(l) != 0 || ok || impl.IsTrusted(w, x, 50) {
					t.Errorf("TrustChain of %d names = %s, %v, with %s at %d", length, namesText(l), ok, what, at)
				}
				checkModel(t, w, x, 50)
			}
		}
	}
}

// brokenLinks are the changes that break the link at an index: that of the data, or that of the certificate in front of it.
func brokenLinks(at int) map[string]func(*impl.TrustPolicy, *impl.Data) {
	links := map[string]func(w *impl.TrustPolicy, x *impl.Data, link *impl.Data){
		"another signature":     func(w *impl.TrustPolicy, x, link *impl.Data) { link.Signature ^= 1 },
		"a signature of 0":      func(w *impl.TrustPolicy, x, link *impl.Data) { link.Signature = 0 },
		"another time":          func(w *impl.TrustPolicy, x, link *impl.Data) { link.FreshUntil++ },
		"another content":       func(w *impl.TrustPolicy, x, link *impl.Data) { link.Content = append(slices.Clone(link.Content), 0) },
		"another name":          func(w *impl.TrustPolicy, x, link *impl.Data) { link.Name = nameOf("y") },
		"a key without a chain": func(w *impl.TrustPolicy, x, link *impl.Data) { *link = rekeyed(w, link, "/other") },
		"no such key":           func(w *impl.TrustPolicy, x, link *impl.Data) { *link = rekeyed(w, link, "/none") },
		"the empty name as key": func(w *impl.TrustPolicy, x, link *impl.Data) { *link = rekeyed(w, link, "/") },
		"the key is removed":    func(w *impl.TrustPolicy, x, link *impl.Data) { w.Keys = slices.Delete(w.Keys, at, at+1) },
		"the secret is changed": func(w *impl.TrustPolicy, x, link *impl.Data) { w.Keys[at].Secret = 77 },
		"a secret of 0": func(w *impl.TrustPolicy, x, link *impl.Data) {
			w.Keys[at].Secret = 0
			*link = resigned(w.Keys, *link)
		},
		"a secret out of range": func(w *impl.TrustPolicy, x, link *impl.Data) { w.Keys[at].Secret += impl.Prime },
		"a rule is missing": func(w *impl.TrustPolicy, x, link *impl.Data) {
			w.Rules = rulesWithout(w, *x, at)
		},
		"no anchors": func(w *impl.TrustPolicy, x, link *impl.Data) { w.Anchors = nil },
		"no rules":   func(w *impl.TrustPolicy, x, link *impl.Data) { w.Rules = nil },
		"no keys":    func(w *impl.TrustPolicy, x, link *impl.Data) { w.Keys = nil },
	}
	changes := map[string]func(*impl.TrustPolicy, *impl.Data){}
	for what, change := range links {
		changes[what] = func(w *impl.TrustPolicy, x *impl.Data) {
			w.Keys = append(w.Keys, keyOf("/other", 5))
			link := x
			if at > 0 {
				link = &w.Certificates[at-1]
			}
			change(w, x, link)
		}
	}
	return changes
}

// rekeyed is the link, signed by another key.
func rekeyed(w *impl.TrustPolicy, link *impl.Data, key string) impl.Data {
	x := *link
	x.KeyName = named(key)
	return resigned(w.Keys, x)
}

// rulesWithout allow each link of a chain by a rule of its own, but for one.
func rulesWithout(w *impl.TrustPolicy, x impl.Data, at int) []impl.Rule {
	rules := []impl.Rule{}
	for _, link := range slices.Concat([]impl.Data{x}, w.Certificates) {
		rules = append(rules, ruleOfParts(link.Name.Parts, link.KeyName.Parts))
	}
	return slices.Delete(rules, at, at+1)
}

// With a rule for each link, and nothing more, the chain holds.
func TestTrustChainWithARuleForEachLink(t *testing.T) {
	for length := 1; length <= 4; length++ {
		w := trustRow(length)
		x := dataBy(w.Keys, "/n000", "/z")
		w.Rules = rulesWithout(&w, x, 0)
		w.Rules = append(w.Rules, ruleOf("/z < /n000"))
		checkChain(t, w, x, 50, rowTexts(0, length-1)...)
		for at := range length {
			w.Rules = rulesWithout(&w, x, at)
			checkChain(t, w, x, 50)
			// A rule for the same key and another name, or the other way round, does not do.
			w.Rules = append(w.Rules, ruleOf("/y < /**"), ruleOf("/** < /other"))
			checkChain(t, w, x, 50)
		}
	}
}

// The first certificate that serves is followed, also where only the second one leads to the anchor.
func TestTrustChainOfTwoCertificates(t *testing.T) {
	w := trustABC()
	x := dataBy(w.Keys, "/a/key", "/a/1")
	good := w.Certificates[0]
	for _, bad := range changedCertificates() {
		w.Certificates = []impl.Data{bad, good}
		checkChain(t, w, x, 500, "/a/key", "/root")
		w.Certificates = []impl.Data{good, bad}
		checkChain(t, w, x, 500, "/a/key", "/root")
		w.Certificates = []impl.Data{bad}
		checkChain(t, w, x, 500)
	}
	// This one serves; but its key is not allowed, or has no certificate of its own, or is its own.
	for _, s := range []string{"/a/key < /b/key", "/a/key < /c/key", "/a/key < /a/key"} {
		w.Certificates = append(certsOf(w.Keys, s), good)
		checkFind(t, w, nameOf("a", "key"), 50, 0)
		checkChain(t, w, x, 50)
		slices.Reverse(w.Certificates)
		checkChain(t, w, x, 50, "/a/key", "/root")
		w.Rules = rulesOf("/** < /**")
		checkChain(t, w, x, 50, "/a/key", "/root")
		slices.Reverse(w.Certificates)
		checkChain(t, w, x, 50)
		w.Rules = trustABC().Rules
	}
}

// A chain is not asked for valid data; trust is.
func TestIsTrustedOfInvalidData(t *testing.T) {
	chains := 0
	for _, x := range slices.Concat(invalidDatas(), []impl.Data{dataOf("/a/1", "hi", "/a/key", impl.MaxTime, 0), dataOf("/a/1", "", "/a/key", 0, 0), {Name: nameOf("a"), Content: counting(60), KeyName: nameOf("a", "key")}}) {
		w := impl.TrustPolicy{Keys: []impl.Key{{Name: x.KeyName, Secret: 5}}, Rules: rulesOf("/** < /**"), Anchors: []impl.Name{x.KeyName}}
		checkModel(t, w, x, 50)
		x = resigned(w.Keys, x)
		if checkModel(t, w, x, 50) && !wantValidData(x) {
			chains++
		}
	}
	if chains < 10 {
		t.Errorf("only %d of the invalid data have a chain", chains)
	}
	w := trustABC()
	for _, until := range notTimes {
		x := resigned(w.Keys, dataOf("/a/1", "hi", "/a/key", until, 0))
		checkChain(t, w, x, 50, "/a/key", "/root")
		checkTrusted(t, w, x, 50, false)
	}
	for length := range 400 {
		x := resigned(w.Keys, impl.Data{Name: nameOf("a", "1"), Content: counting(length), KeyName: nameOf("a", "key")})
		checkChain(t, w, x, 50, "/a/key", "/root")
		checkTrusted(t, w, x, 50, length <= 60)
	}
	w.Rules = append(w.Rules, ruleOf("/ < /**"))
	checkChain(t, w, dataBy(w.Keys, "/a/key", "/"), 50, "/a/key", "/root")
	checkTrusted(t, w, dataBy(w.Keys, "/a/key", "/"), 50, false)
}

// Neither the policy as a whole nor its certificates need be valid.
func TestTrustChainOfInvalidPolicies(t *testing.T) {
	w := trustABC()
	x := dataBy(w.Keys, "/a/key", "/a/1")
	w.Keys = slices.Concat(w.Keys, numberedKeys(300), keysOf("/root", "/", "/A"))
	w.Rules = slices.Concat(rulesOf("/a < /?x", "/A < /A", "/**/a < /a"), numberedRules(300), w.Rules)
	w.Anchors = append(namesOf("/z", "/", "/A", "/n000", "/n001", "/n002", "/n003", "/n004", "/n005"), w.Anchors...)
	w.Certificates = slices.Concat(make([]impl.Data, 300), w.Certificates)
	checkValidTrust(t, w, false)
	checkFind(t, w, nameOf("a", "key"), 50, 300)
	checkChain(t, w, x, 50, "/a/key", "/root")
	for _, until := range notTimes {
		w := trustABC()
		w.Certificates[0].FreshUntil = until
		w.Certificates[0] = resigned(w.Keys, w.Certificates[0])
		if until >= 50 {
			checkChain(t, w, x, 50, "/a/key", "/root")
		} else {
			checkChain(t, w, x, 50)
		}
		checkChain(t, w, x, math.MinInt, "/a/key", "/root")
	}
	// Several keys with one secret, and several with one name, of which the first one counts.
	w = trustABC()
	for i := range w.Keys {
		w.Keys[i].Secret = 7
	}
	w.Keys = append(w.Keys, keysOf("/a/key", "/root")...)
	w.Certificates = certsOf(w.Keys, "/a/key < /root")
	checkChain(t, w, dataBy(w.Keys, "/a/key", "/a/1"), 50, "/a/key", "/root")
}

// Each of five keys has a certificate by one of them, or none; of all these policies, some have chains of four names and of five.
func TestTrustChainOfAllCertificates(t *testing.T) {
	l := keysOf("/a", "/b", "/c", "/d", "/e")
	texts := []string{"/a", "/b", "/c", "/d", "/e"}
	certificates := [5][5]impl.Data{}
	datas := [5]impl.Data{}
	for i, name := range texts {
		datas[i] = dataBy(l, name, "/z/1")
		for j, key := range texts {
			certificates[i][j] = certsOf(l, name+" < "+key)[0]
		}
	}
	w := impl.TrustPolicy{Keys: l, Rules: rulesOf("/** < /**"), Anchors: namesOf("/e")}
	lengths := map[int]int{}
	for choice := range 6 * 6 * 6 * 6 * 6 {
		w.Certificates = nil
		next := [5]int{}
		for i, rest := 0, choice; i < 5; i, rest = i+1, rest/6 {
			next[i] = rest%6 - 1
			if next[i] >= 0 {
				w.Certificates = append(w.Certificates, certificates[i][next[i]])
			}
		}
		from := choice % 4
		want, at := []string{texts[from]}, from
		for at != 4 && next[at] >= 0 && len(want) <= 5 {
			at = next[at]
			want = append(want, texts[at])
		}
		if at != 4 || len(want) > 4 {
			want = nil
		}
		lengths[len(want)]++
		checkChain(t, w, datas[from], 50, want...)
		if t.Failed() {
			return
		}
	}
	if lengths[2] == 0 || lengths[3] == 0 || lengths[4] == 0 || lengths[0] == 0 || len(lengths) != 4 {
		t.Errorf("the lengths of the chains are %v", lengths)
	}
}

// All policies of one or two certificates, rules and anchors of some, held against the model.
func TestTrustOfAllShortPolicies(t *testing.T) {
	l := []impl.Key{keyOf("/a", 5), keyOf("/b", 6), keyOf("/a/b", 7), keyOf("/c", 0)}
	some := certsOf(l, "/a < /b", "/a < /a", "/a/b < /a", "/b < /a/b", "/c < /b")
	stale, other := some[0], some[2]
	stale.FreshUntil = 10
	other.Content = wantKeyDigest(l, nameOf("b"))
	some = append(some, resigned(l, stale), resigned(l, other))
	rules := [][]impl.Rule{rulesOf("/** < /**"), rulesOf("/?x/** < /?x/**"), rulesOf("/a < /b", "/?x/?y < /?x", "/z < /?z"), nil}
	anchors := [][]impl.Name{nil, namesOf("/a"), namesOf("/b"), namesOf("/a/b", "/c"), namesOf("/z", "/")}
	datas := []impl.Data{dataBy(l, "/a", "/a/1"), dataBy(l, "/b", "/a"), dataBy(l, "/a/b", "/a/b"), dataBy(l, "/c", "/c/1"), dataBy(l, "/z", "/a/1"), dataOf("/a/1", "hi", "/a", 900, 1)}
	trusted := 0
	for _, digits := range sequences(strings.Split("0123456", ""), 2) {
		w := impl.TrustPolicy{Keys: l}
		for _, digit := range digits {
			w.Certificates = append(w.Certificates, some[digit[0]-'0'])
		}
		for _, n := range namesOf("/a", "/b", "/a/b", "/c", "/z", "/") {
			checkFind(t, w, n, 10, model11Find(w, n, 10))
			checkFind(t, w, n, 11, model11Find(w, n, 11))
		}
		for i := range len(rules) * len(anchors) {
			w.Rules, w.Anchors = rules[i/len(anchors)], anchors[i%len(anchors)]
			for _, x := range datas {
				if checkModel(t, w, x, 10) {
					trusted++
				}
				checkModel(t, w, x, 11)
			}
		}
		if t.Failed() {
			return
		}
	}
	if trusted < 100 {
		t.Errorf("only %d of the data are trusted", trusted)
	}
}

// Whoever is in a chain is allowed to sign what is in front of it, and has signed it; the last one is an anchor, and no other one is.
func TestTrustedDataAreSignedUpToAnAnchor(t *testing.T) {
	l := keysOf("/root", "/a/key", "/a/b/key", "/b/key", "/b/b/key")
	w := impl.TrustPolicy{Keys: l, Rules: rulesOf("/?x/?y/key < /?x/key", "/?x/key < /root", "/?x/?y/** < /?x/?y/key", "/?x/** < /?x/key"), Anchors: namesOf("/root")}
	w.Certificates = certsOf(l, "/a/key < /root", "/a/b/key < /a/key", "/b/key < /a/key", "/b/b/key < /b/key")
	checkValidTrust(t, w, true)
	trusted := 0
	for _, parts := range sequences([]string{"a", "b", "root", "key"}, 4) {
		for _, k := range l {
			x := resigned(l, impl.Data{Name: nameOf(parts...), Content: []byte("hi"), KeyName: k.Name, FreshUntil: 900})
			chain, ok := impl.TrustChain(w, x, 50)
			checkModel(t, w, x, 50)
			if !ok {
				continue
			}
			trusted++
			for i, key := range chain {
				if !slices.Equal(x.KeyName.Parts, key.Parts) || !impl.VerifySignature(l, x) || !impl.Allowed(w.Rules, x.Name, key) || impl.IsAnchor(w, key) != (i == len(chain)-1) {
					t.Errorf("%s is in the chain %s, at %d", dataText(x), namesText(chain), i)
				}
				if i < len(chain)-1 {
					x = w.Certificates[impl.FindCertificate(w, key, 50)]
				}
			}
		}
	}
	if trusted < 50 {
		t.Errorf("only %d of the data are trusted", trusted)
	}
}

func checkIssued(t *testing.T, l []impl.Key, n, key impl.Name, until int) {
	t.Helper()
	want, wantOK := impl.Data{}, false
	x := resigned(l, impl.Data{Name: n, Content: wantKeyDigest(l, n), KeyName: key, FreshUntil: until})
	if model9Secret(l, key) != 0 && wantValidData(x) {
		want, wantOK = x, true
	}
	if got, ok := impl.IssueCertificate(l, n, key, until); dataText(got) != dataText(want) || ok != wantOK {
		t.Errorf("IssueCertificate(%s, %q, %q, %d) = %s, %v, want %s, %v", keysText(l), n.Parts, key.Parts, until, dataText(got), ok, dataText(want), wantOK)
	}
}

func TestIssueCertificate(t *testing.T) {
	l := []impl.Key{keyOf("/key/a", 100), keyOf("/a/key", 101), keyOf("/b/key", 102)}
	x, ok := impl.IssueCertificate(l, named("/a/key"), named("/key/a"), 500)
	want := dataOf("/a/key", "\xd3\xb2\x9f\x05", "/key/a", 500, 0)
	want.Signature = wantMAC(100, wantPortion(want))
	if dataText(x) != dataText(want) || !ok {
		t.Errorf("IssueCertificate = %s, %v, want %s", dataText(x), ok, dataText(want))
	}
	names := slices.Concat(emptyNames, notNames, dataNames, namesOf("/key/a", "/a/key", "/b/key", "/key", "/a/key/1", "/z"))
	for _, n := range names {
		for _, key := range names {
			for _, until := range []int{0, 500, 100000, 100001, -1} {
				checkIssued(t, l, n, key, until)
			}
		}
	}
	for _, until := range slices.Concat(times, notTimes) {
		checkIssued(t, l, named("/a/key"), named("/key/a"), until)
		checkIssued(t, l, named("/key/a"), named("/key/a"), until)
		checkIssued(t, l, named("/z"), named("/key/a"), until)
	}
	for _, none := range emptyKeys {
		checkIssued(t, none, named("/a/key"), named("/key/a"), 500)
		checkIssued(t, none, impl.Name{}, impl.Name{}, 0)
	}
}

// The lists need not be valid; a name without a key gets a certificate without a content, which is never found.
func TestIssueCertificateOfInvalidKeys(t *testing.T) {
	for _, l := range shortKeys() {
		for _, n := range namesOf("/a", "/b", "/a/b", "/", "/c") {
			for _, key := range namesOf("/a", "/b", "/a/b", "/", "/c") {
				checkIssued(t, l, n, key, 500)
			}
		}
		if t.Failed() {
			return
		}
	}
	for _, secret := range allSecrets() {
		checkIssued(t, []impl.Key{keyOf("/a", secret), keyOf("/b", 7)}, nameOf("a"), nameOf("b"), 500)
		checkIssued(t, []impl.Key{keyOf("/a", secret), keyOf("/b", 7)}, nameOf("b"), nameOf("a"), 500)
	}
	l := keysOf("/root")
	x, ok := impl.IssueCertificate(l, nameOf("z"), nameOf("root"), 500)
	if !ok || len(x.Content) != 0 {
		t.Errorf("IssueCertificate of a name without a key = %s, %v", dataText(x), ok)
	}
	checkFind(t, impl.TrustPolicy{Keys: l, Certificates: []impl.Data{x}}, nameOf("z"), 0, -1)
}

// What is issued is found until its time, and makes a chain with the anchor.
func TestIssuedCertificatesAreFound(t *testing.T) {
	for _, secret := range []int{1, 5, 2136483601, 2136483602, 2136483729, 2136483600, impl.Prime - 1} {
		l := []impl.Key{keyOf("/root", 77), keyOf("/a/key", secret)}
		for _, until := range times {
			x, ok := impl.IssueCertificate(l, named("/a/key"), named("/root"), until)
			w := impl.TrustPolicy{Keys: l, Rules: trustABC().Rules, Anchors: namesOf("/root"), Certificates: []impl.Data{x}}
			checkValidTrust(t, w, ok)
			checkFind(t, w, named("/a/key"), until, 0)
			checkFind(t, w, named("/a/key"), until+1, -1)
			checkChain(t, w, dataBy(l, "/a/key", "/a/1"), until, "/a/key", "/root")
			checkChain(t, w, dataBy(l, "/a/key", "/a/1"), until+1)
			// With another secret, the key has another certificate.
			w.Keys = []impl.Key{keyOf("/root", 77), keyOf("/a/key", secret^2)}
			checkFind(t, w, named("/a/key"), until, -1)
		}
	}
}

// A guarded policy has spare capacity behind each list, each name and each content of it.
type guardedTrust struct {
	trust        impl.TrustPolicy
	keys         guardedList[impl.Key]
	rules        guardedList[impl.Rule]
	anchors      guardedList[impl.Name]
	certificates guardedList[impl.Data]
	contents     []guarded[byte]
}

func guardTrust(w impl.TrustPolicy) guardedTrust {
	g := guardedTrust{keys: guardKeys(w.Keys), rules: guardRules(w.Rules)}
	g.anchors = guardList(w.Anchors, namesOf("/n000", "/a/key", "/", "/z", "/root", "/A"), func(n *impl.Name) []*[]string { return []*[]string{&n.Parts} }, namesText)
	certificates := []impl.Data{}
	for _, x := range slices.Concat(w.Certificates, trustABC().Certificates, trustRow(5).Certificates) {
		content := guard(x.Content)
		g.contents = append(g.contents, content)
		x.Content = content.slice
		certificates = append(certificates, x)
	}
	count := len(w.Certificates)
	g.certificates = guardList(certificates[:count], certificates[count:], func(x *impl.Data) []*[]string { return []*[]string{&x.Name.Parts, &x.KeyName.Parts} }, datasText)
	g.trust = impl.TrustPolicy{Keys: g.keys.slice, Rules: g.rules.slice, Anchors: g.anchors.slice, Certificates: g.certificates.slice}
	return g
}

func (g guardedTrust) check(t *testing.T, what string) {
	t.Helper()
	g.keys.check(t, what+", the keys")
	g.rules.check(t, what+", the rules")
	g.anchors.check(t, what+", the anchors")
	g.certificates.check(t, what+", the certificates")
	for _, content := range g.contents {
		content.check(t, what+", the content of a certificate")
	}
}

// memoryTrusts are policies, valid or not, with and without chains of the data that memoryTrustDatas returns.
func memoryTrusts() []impl.TrustPolicy {
	broken, circle, invalid, loose := trustRow(4), trustRow(3), trustABC(), trustABC()
	broken.Certificates = broken.Certificates[:2]
	circle.Certificates = append(circle.Certificates, certsOf(circle.Keys, "/n002 < /n000")...)
	circle.Anchors = nil
	invalid.Keys = append(invalid.Keys, keysOf("/", "/A", "/root")...)
	invalid.Certificates = append(invalid.Certificates, invalidDatas()[:9]...)
	loose.Rules = nil
	return []impl.TrustPolicy{{}, trustABC(), trustRow(1), trustRow(2), trustRow(4), trustRow(5), trustRow(8), trustRow(9), broken, circle, invalid, loose}
}

func memoryTrustDatas() []impl.Data {
	row := numberedKeys(9)
	abc := trustABC().Keys
	return []impl.Data{{}, dataBy(abc, "/a/key", "/a/1"), dataBy(abc, "/a/key", "/b/1"), dataBy(abc, "/root", "/a/key"), dataBy(row, "/n000", "/z"), dataBy(row, "/n003", "/n003"), dataBy(row, "/n001", "/A"), dataOf("/a/1", "hi", "/a/key", -1, -1)}
}

func TestTrustPoliciesAreLeftAsTheyAre(t *testing.T) {
	for _, w := range memoryTrusts() {
		g := guardTrust(w)
		for _, x := range memoryTrustDatas() {
			data := guardData(x)
			calls := []struct {
				what string
				call func()
			}{
				{"ValidTrust", func() { impl.ValidTrust(g.trust) }},
				{"KeyDigest", func() { impl.KeyDigest(g.trust.Keys, data.data.KeyName) }},
				{"FindCertificate", func() { impl.FindCertificate(g.trust, data.data.KeyName, 50) }},
				{"FindCertificate, later", func() { impl.FindCertificate(g.trust, data.data.KeyName, 501) }},
				{"IsAnchor", func() { impl.IsAnchor(g.trust, data.data.KeyName) }},
				{"TrustChain", func() { impl.TrustChain(g.trust, data.data, 50) }},
				{"TrustChain, later", func() { impl.TrustChain(g.trust, data.data, 501) }},
				{"IsTrusted", func() { impl.IsTrusted(g.trust, data.data, 50) }},
				{"IssueCertificate", func() { impl.IssueCertificate(g.trust.Keys, data.data.Name, data.data.KeyName, 500) }},
				{"IssueCertificate of the key", func() { impl.IssueCertificate(g.trust.Keys, data.data.KeyName, data.data.KeyName, 500) }},
			}
			for _, c := range calls {
				c.call()
				g.check(t, c.what)
				data.check(t, c.what)
				if dataText(data.data) != dataText(x) {
					t.Errorf("%s changes %s to %s", c.what, dataText(x), dataText(data.data))
				}
			}
		}
	}
}

// scribbleNames changes all memory of a list of names.
func scribbleNames(l []impl.Name) {
	whole := l[:cap(l)]
	for i := range whole {
		scribbleParts(whole[i])
		whole[i] = nameOf("changed")
	}
}

func TestTrustChainsAreNewMemory(t *testing.T) {
	chains := 0
	for _, w := range memoryTrusts() {
		for _, x := range memoryTrustDatas() {
			g, data := guardTrust(w), guardData(x)
			first, ok := impl.TrustChain(g.trust, data.data, 50)
			second, _ := impl.TrustChain(g.trust, data.data, 50)
			want := namesText(second)
			scribbleNames(first)
			g.check(t, "TrustChain, its result changed")
			data.check(t, "TrustChain, its result changed")
			scribbleData(data.data)
			scribbleNames(g.trust.Anchors)
			scribbleKeys(g.trust.Keys)
			for _, c := range g.trust.Certificates {
				scribbleData(c)
			}
			if namesText(second) != want {
				t.Errorf("TrustChain(%s, %s) shares memory with its arguments or with another result", trustText(w), dataText(x))
			}
			if ok {
				chains++
			}
		}
	}
	if chains < 5 {
		t.Errorf("there are only %d chains", chains)
	}
}

// The names of a chain are apart from each other, also where those of the arguments are parts of one array.
func TestNamesOfTrustChainsAreApart(t *testing.T) {
	array := []string{"a", "b", "c", "d", "e", "f"}
	l := []impl.Key{}
	for i := range 4 {
		l = append(l, impl.Key{Name: nameOf(array[:i+1]...), Secret: 10 + i})
	}
	w := impl.TrustPolicy{Keys: l, Rules: rulesOf("/** < /**"), Anchors: []impl.Name{l[3].Name}}
	for i := range 3 {
		w.Certificates = append(w.Certificates, resigned(l, impl.Data{Name: l[i].Name, Content: wantKeyDigest(l, l[i].Name), KeyName: l[i+1].Name, FreshUntil: 500}))
	}
	x := resigned(l, impl.Data{Name: nameOf(array[4:]...), KeyName: l[0].Name})
	for at := range 4 {
		chain, ok := impl.TrustChain(w, x, 50)
		if !ok || len(chain) != 4 {
			t.Fatalf("TrustChain = %s, %v", namesText(chain), ok)
		}
		scribbleParts(chain[at])
		for i := range chain {
			if i != at && !slices.Equal(chain[i].Parts, array[:i+1]) {
				t.Errorf("the names of a chain share memory: %s", namesText(chain))
			}
		}
	}
	if !slices.Equal(array, []string{"a", "b", "c", "d", "e", "f"}) {
		t.Errorf("the array of the names is %q", array)
	}
}

func TestKeyDigestsAreNewMemory(t *testing.T) {
	for _, l := range [][]impl.Key{nil, keysOf("/a"), {keyOf("/a", 0)}, {keyOf("/a", 2136483601)}} {
		first, second := impl.KeyDigest(l, nameOf("a")), impl.KeyDigest(l, nameOf("a"))
		want := slices.Clone(second)
		scribble(first)
		if !bytes.Equal(second, want) || !bytes.Equal(impl.KeyDigest(l, nameOf("a")), want) {
			t.Errorf("KeyDigest of %s: two results share memory", keysText(l))
		}
	}
}

func TestIssuedCertificatesAreNewMemory(t *testing.T) {
	for _, texts := range [][]string{{"/a/key", "/root"}, {"/root", "/root"}, {"/z", "/root"}, {"/A", "/root"}, {"/a", "/z"}, {"/", "/"}} {
		g := guardKeys(keysOf("/root", "/a/key"))
		name, key := guardWith(named(texts[0]).Parts, spareParts), guardWith(named(texts[1]).Parts, spareParts)
		issue := func() impl.Data {
			x, _ := impl.IssueCertificate(g.slice, impl.Name{Parts: name.slice}, impl.Name{Parts: key.slice}, 500)
			return x
		}
		first, second := issue(), issue()
		want, keyName := dataText(second), slices.Clone(first.KeyName.Parts)
		scribbleParts(first.Name)
		if !slices.Equal(first.KeyName.Parts, keyName) {
			t.Errorf("IssueCertificate of %q: the names share memory", texts)
		}
		scribbleData(first)
		g.check(t, "IssueCertificate, its result changed")
		name.check(t, "IssueCertificate, its result changed, the name")
		key.check(t, "IssueCertificate, its result changed, the key")
		scribbleParts(impl.Name{Parts: name.slice})
		scribbleParts(impl.Name{Parts: key.slice})
		scribbleKeys(g.slice)
		if dataText(second) != want {
			t.Errorf("IssueCertificate of %q shares memory with its arguments or with another result", texts)
		}
	}
	n := nameOf("a", "key")
	x, ok := impl.IssueCertificate([]impl.Key{{Name: n, Secret: 5}}, n, n, 500)
	scribbleParts(x.Name)
	if !ok || !slices.Equal(x.KeyName.Parts, []string{"a", "key"}) || !slices.Equal(n.Parts, []string{"a", "key"}) {
		t.Errorf("IssueCertificate of a key by itself = %s, %v; the name is then %q", dataText(x), ok, n.Parts)
	}
}

// What lies behind the last key, rule, anchor or certificate, and behind a content, counts for nothing.
func TestSpareMemoryOfTrustIsNotRead(t *testing.T) {
	w := trustABC()
	x := dataBy(w.Keys, "/a/key", "/a/1")
	w.Certificates[0].Content = append(slices.Clone(w.Certificates[0].Content), 1, 2, 3)[:4]
	w.Anchors = namesOf("/root", "/A", "/a/key", "/z")[:1]
	checkChain(t, w, x, 50, "/a/key", "/root")
	checkValidTrust(t, w, true)
	if impl.IsAnchor(w, nameOf("a", "key")) || impl.IsAnchor(w, nameOf("z")) {
		t.Error("IsAnchor reads behind the anchors")
	}
	for _, c := range []func(v *impl.TrustPolicy){
		func(v *impl.TrustPolicy) { v.Keys = v.Keys[:1] },
		func(v *impl.TrustPolicy) { v.Rules = v.Rules[:1] },
		func(v *impl.TrustPolicy) { v.Anchors = v.Anchors[:0] },
		func(v *impl.TrustPolicy) { v.Certificates = v.Certificates[:0] },
	} {
		v := w
		c(&v)
		checkChain(t, v, x, 50)
		checkFind(t, v, nameOf("a", "key"), 50, model11Find(v, nameOf("a", "key"), 50))
	}
	v := trustRow(9)
	v.Keys, v.Anchors, v.Certificates = v.Keys[:8], namesOf("/n000", "/n008")[:1], append(v.Certificates, impl.Data{})[:8]
	v.Rules = append(numberedRules(8), ruleOf("/A < /A"))[:8]
	checkValidTrust(t, v, true)
}
