package tests

import (
	"fmt"
	"math"
	"slices"
	"strings"
	"testing"

	"loop.example/g00507/impl"
)

// pendingOf makes a list of texts like "/a 1?7~14 2?8~16 @3": the name /a, a requester with the face 1, the nonce 7 and the expiry 14, another one, and last sent at 3.
func pendingOf(texts ...string) []impl.PendingInterest {
	l := []impl.PendingInterest{}
	for _, s := range texts {
		words := strings.Split(s, " ")
		p := impl.PendingInterest{Name: named(words[0])}
		for _, word := range words[1:] {
			if sent, isSent := strings.CutPrefix(word, "@"); isSent {
				p.LastSent = integer(sent)
			} else {
				p.Requesters = append(p.Requesters, requesterOf(word))
			}
		}
		l = append(l, p)
	}
	return l
}

func requesterOf(s string) impl.Requester {
	face, s, _ := strings.Cut(s, "?")
	nonce, expiry, _ := strings.Cut(s, "~")
	return impl.Requester{Face: integer(face), Nonce: integer(nonce), Expiry: integer(expiry)}
}

// requestersOf makes requesters of a text like "1?7~14 2?8~16"; "" are none.
func requestersOf(s string) []impl.Requester {
	l := []impl.Requester{}
	for _, word := range strings.Fields(s) {
		l = append(l, requesterOf(word))
	}
	return l
}

// asked makes an interest of a text like "/a?7~4": with the nonce 7 and the lifetime 4.
func asked(s string) impl.Interest {
	name, s, _ := strings.Cut(s, "?")
	nonce, lifetime, _ := strings.Cut(s, "~")
	return interestOf(name, integer(nonce), 3, integer(lifetime))
}

// seenOf makes completed nonces of texts like "/a?7".
func seenOf(texts ...string) []impl.SeenNonce {
	s := []impl.SeenNonce{}
	for _, text := range texts {
		name, nonce, _ := strings.Cut(text, "?")
		s = append(s, impl.SeenNonce{Name: named(name), Nonce: integer(nonce)})
	}
	return s
}

// numberedPending is a list with the names /n000, /n001 and so on, valid if it is not too long.
func numberedPending(length int) []impl.PendingInterest {
	texts := []string{}
	for i := range length {
		texts = append(texts, fmt.Sprintf("/n%03d 1?%d~%d 4?%d~50 @%d", i, i, 40+i, i+100, i+7))
	}
	return pendingOf(texts...)
}

// numberedSeen has the nonces 0, 1 and so on, of several names.
func numberedSeen(length int) []impl.SeenNonce {
	s := []impl.SeenNonce{}
	for i := range length {
		s = append(s, impl.SeenNonce{Name: numberedName(i % 5), Nonce: i})
	}
	return s
}

// pendingText is the same for equal lists only.
func pendingText(l []impl.PendingInterest) string {
	text := ""
	for _, p := range l {
		text += fmt.Sprintf("%q %s@%d; ", p.Name.Parts, requestersText(p.Requesters), p.LastSent)
	}
	return text
}

// requestersText is the same for equal lists only.
func requestersText(l []impl.Requester) string {
	text := ""
	for _, r := range l {
		text += fmt.Sprintf("%d?%d~%d ", r.Face, r.Nonce, r.Expiry)
	}
	return text
}

// seenText is the same for equal lists only.
func seenText(s []impl.SeenNonce) string {
	text := ""
	for _, x := range s {
		text += fmt.Sprintf("%q?%d ", x.Name.Parts, x.Nonce)
	}
	return text
}

var (
	emptyPendings   = [][]impl.PendingInterest{nil, {}, numberedPending(2)[:0]}
	emptySeens      = [][]impl.SeenNonce{nil, {}, numberedSeen(2)[:0]}
	emptyRequesters = [][]impl.Requester{nil, {}, requestersOf("1?7~14 2?8~16")[:0]}

	faces    = []int{0, 1, 2, 3, 4, 5, 6}
	notFaces = []int{-1, -2, -6, -7, -256, -1 << 32, math.MinInt, math.MinInt + 1, 7, 8, 12, 255, 256, 256 + 6, 1 << 32, 1<<32 + 1, impl.MaxInt, math.MaxInt - 1, math.MaxInt}

	// Times before, between and behind those of the elements.
	pendingTimes = []int{math.MinInt, math.MinInt + 1, -50, -1, 0, 1, 2, 3, 48, 49, 50, 51, impl.MaxTime - 1, impl.MaxTime, impl.MaxTime + 1, math.MaxInt - 20, math.MaxInt - 4, math.MaxInt - 1, math.MaxInt}

	// Lists, valid or not, in which lists of up to three of these elements are taken together.
	shortPendingTexts = []string{"/a 1?7~50 @3", "/a 2?8~49", "/b 0?7~50 3?9~49 @2", "/b 3?9~50 1?7~48 3?8~49", "/c/d", "/A 1?7~50"}
)

func shortPendings() [][]impl.PendingInterest {
	all := [][]impl.PendingInterest{}
	for _, texts := range sequences(shortPendingTexts, 3) {
		all = append(all, pendingOf(texts...))
	}
	return all
}

// The models follow the document's words without the program.
func model13Valid(l []impl.PendingInterest) bool {
	for i, p := range l {
		if !wantValidName(p.Name) || len(p.Name.Parts) == 0 || len(p.Requesters) == 0 || p.LastSent < 0 || p.LastSent > 100000 || model13Index(l[:i], p.Name) >= 0 {
			return false
		}
		last := -1
		for _, r := range p.Requesters {
			if r.Face <= last || r.Face > 6 || r.Nonce < 0 || r.Nonce > 1000000 {
				return false
			}
			last = r.Face
		}
	}
	return len(l) <= 12
}

func model13Index(l []impl.PendingInterest, n impl.Name) int {
	for i, p := range l {
		if slices.Equal(p.Name.Parts, n.Parts) {
			return i
		}
	}
	return -1
}

func model13Loop(l []impl.PendingInterest, s []impl.SeenNonce, w impl.Interest) bool {
	nonces := []int{}
	for _, p := range l {
		for _, r := range p.Requesters {
			if slices.Equal(p.Name.Parts, w.Name.Parts) {
				nonces = append(nonces, r.Nonce)
			}
		}
	}
	for _, x := range s {
		if slices.Equal(x.Name.Parts, w.Name.Parts) {
			nonces = append(nonces, x.Nonce)
		}
	}
	return slices.Contains(nonces, w.Nonce)
}

func model13Interest(w impl.Interest) bool {
	return wantValidName(w.Name) && len(w.Name.Parts) > 0 && w.Nonce >= 0 && w.Nonce <= 1000000 && w.HopLimit >= 0 && w.HopLimit <= 16 && w.Lifetime >= 1 && w.Lifetime <= 20
}

func model13Add(l []impl.PendingInterest, w impl.Interest, face int, now int) ([]impl.PendingInterest, bool) {
	at := model13Index(l, w.Name)
	if !model13Interest(w) || face < 0 || face > 6 || at < 0 && len(l) >= 12 {
		return l, false
	}
	l = slices.Clone(l)
	if at < 0 {
		at = len(l)
		l = append(l, impl.PendingInterest{Name: w.Name})
	}
	before, behind := []impl.Requester{}, []impl.Requester{}
	for _, r := range l[at].Requesters {
		switch {
		case r.Face == face:
		case r.Face > face || len(behind) > 0:
			behind = append(behind, r)
		default:
			before = append(before, r)
		}
	}
	l[at].Requesters = slices.Concat(before, []impl.Requester{{Face: face, Nonce: w.Nonce, Expiry: now + w.Lifetime}}, behind)
	return l, true
}

func model13Sent(l []impl.PendingInterest, n impl.Name) int {
	if at := model13Index(l, n); at >= 0 {
		return l[at].LastSent
	}
	return 0
}

func model13Mark(l []impl.PendingInterest, n impl.Name, now int) []impl.PendingInterest {
	l = slices.Clone(l)
	if at := model13Index(l, n); at >= 0 {
		l[at].LastSent = now
	}
	return l
}

func model13Satisfy(l []impl.PendingInterest, n impl.Name) ([]impl.PendingInterest, []impl.Requester) {
	at := model13Index(l, n)
	if at < 0 {
		return l, nil
	}
	return slices.Concat(l[:at], l[at+1:]), l[at].Requesters
}

func model13Expire(l []impl.PendingInterest, now int) []impl.PendingInterest {
	left := []impl.PendingInterest{}
	for _, p := range l {
		waiting := []impl.Requester{}
		for _, r := range p.Requesters {
			if now <= r.Expiry {
				waiting = append(waiting, r)
			}
		}
		if p.Requesters = waiting; len(waiting) > 0 {
			left = append(left, p)
		}
	}
	return left
}

func checkPending(t *testing.T, what string, got []impl.PendingInterest, want []impl.PendingInterest) {
	t.Helper()
	if pendingText(got) != pendingText(want) {
		t.Errorf("%s = %s, want %s", what, pendingText(got), pendingText(want))
	}
}

func checkValidPending(t *testing.T, l []impl.PendingInterest, want bool) {
	t.Helper()
	if got := impl.ValidPending(l); got != want {
		t.Errorf("ValidPending(%s) = %v", pendingText(l), got)
	}
}

func checkLoop(t *testing.T, l []impl.PendingInterest, s []impl.SeenNonce, w impl.Interest, want bool) {
	t.Helper()
	if got := impl.IsLoop(l, s, w); got != want {
		t.Errorf("IsLoop(%s, %s, %s) = %v", pendingText(l), seenText(s), interestText(w), got)
	}
}

func checkAddRequester(t *testing.T, l []impl.PendingInterest, w impl.Interest, face int, now int, want []impl.PendingInterest, wantOK bool) {
	t.Helper()
	if got, ok := impl.AddRequester(l, w, face, now); pendingText(got) != pendingText(want) || ok != wantOK {
		t.Errorf("AddRequester(%s, %s, %d, %d) = %s, %v, want %s, %v", pendingText(l), interestText(w), face, now, pendingText(got), ok, pendingText(want), wantOK)
	}
}

// checkSent checks HasPending, LastSentAt and MarkSent of one name.
func checkSent(t *testing.T, l []impl.PendingInterest, n impl.Name, now int) {
	t.Helper()
	if got, want := impl.HasPending(l, n), model13Index(l, n) >= 0; got != want {
		t.Errorf("HasPending(%s, %q) = %v", pendingText(l), n.Parts, got)
	}
	if got, want := impl.LastSentAt(l, n), model13Sent(l, n); got != want {
		t.Errorf("LastSentAt(%s, %q) = %d, want %d", pendingText(l), n.Parts, got, want)
	}
	checkPending(t, fmt.Sprintf("MarkSent(%s, %q, %d)", pendingText(l), n.Parts, now), impl.MarkSent(l, n, now), model13Mark(l, n, now))
}

func checkSatisfy(t *testing.T, l []impl.PendingInterest, n impl.Name, want []impl.PendingInterest, wantRequesters []impl.Requester) {
	t.Helper()
	if got, requesters := impl.Satisfy(l, n); pendingText(got) != pendingText(want) || !slices.Equal(requesters, wantRequesters) {
		t.Errorf("Satisfy(%s, %q) = %s, %s, want %s, %s", pendingText(l), n.Parts, pendingText(got), requestersText(requesters), pendingText(want), requestersText(wantRequesters))
	}
}

func checkExpire(t *testing.T, l []impl.PendingInterest, now int, want []impl.PendingInterest) {
	t.Helper()
	checkPending(t, fmt.Sprintf("ExpirePending(%s, %d)", pendingText(l), now), impl.ExpirePending(l, now), want)
}

func checkSeen(t *testing.T, s []impl.SeenNonce, n impl.Name, nonce int, want []impl.SeenNonce) {
	t.Helper()
	if got := impl.AddSeenNonce(s, n, nonce); seenText(got) != seenText(want) {
		t.Errorf("AddSeenNonce(%s, %q, %d) = %s, want %s", seenText(s), n.Parts, nonce, seenText(got), seenText(want))
	}
}

func TestTheLimitsOfPendingInterestsAreThoseOfTheDocument(t *testing.T) {
	if impl.MaxPending != 12 || impl.MaxFaces != 6 || impl.MaxSeen != 24 {
		t.Errorf("MaxPending = %d, MaxFaces = %d, MaxSeen = %d", impl.MaxPending, impl.MaxFaces, impl.MaxSeen)
	}
}

func TestValidPending(t *testing.T) {
	for _, l := range emptyPendings {
		checkValidPending(t, l, true)
	}
	for length := range 30 {
		checkValidPending(t, numberedPending(length), length <= 12)
	}
	for _, length := range []int{255, 256, 257, 256 + 12, 999} {
		checkValidPending(t, numberedPending(length), false)
	}
	for _, l := range shortPendings() {
		checkValidPending(t, l, model13Valid(l))
	}
	checkValidPending(t, pendingOf("/b 0?0~0 @0", "/a 6?1000000~-5 @100000"), true)
	checkValidPending(t, make([]impl.PendingInterest, 1), false)
}

// One element of a list is replaced by one with other fields, at each position.
func checkOneElement(t *testing.T, p impl.PendingInterest, want bool) {
	t.Helper()
	checkValidPending(t, []impl.PendingInterest{p}, want)
	for _, length := range []int{2, 5, 12} {
		for at := range length {
			l := numberedPending(length)
			l[at] = p
			checkValidPending(t, l, want)
		}
	}
}

func TestValidPendingOfEachName(t *testing.T) {
	for _, n := range slices.Concat(emptyNames, notNames, ascendingNames, wantNames) {
		p := pendingOf("/a 1?7~14")[0]
		p.Name = n
		checkOneElement(t, p, wantValidName(n) && len(n.Parts) > 0)
	}
	// No name occurs twice, wherever, whatever else is different; a name that another one is under is another name.
	for length := 2; length <= 12; length++ {
		for i := range length {
			for j := range length {
				l := numberedPending(length)
				l[i].Name = numberedName(j)
				checkValidPending(t, l, i == j)
			}
		}
	}
	checkValidPending(t, pendingOf("/a 1?7~14", "/a/a 1?7~14", "/aa 1?7~14", "/a/b 1?7~14", "/b/a 1?7~14"), true)
	checkValidPending(t, pendingOf("/a 1?7~14 @1", "/b 1?7~14", "/a 2?8~15 @2"), false)
}

func TestValidPendingOfEachRequester(t *testing.T) {
	for _, none := range emptyRequesters {
		checkOneElement(t, impl.PendingInterest{Name: nameOf("a"), Requesters: none, LastSent: 3}, false)
	}
	oneRequester := func(r impl.Requester, want bool) {
		checkOneElement(t, impl.PendingInterest{Name: nameOf("a"), Requesters: []impl.Requester{r}}, want)
	}
	for _, face := range faces {
		oneRequester(impl.Requester{Face: face, Nonce: 7, Expiry: 14}, true)
	}
	for _, face := range notFaces {
		oneRequester(impl.Requester{Face: face, Nonce: 7, Expiry: 14}, false)
	}
	for _, nonce := range nonces {
		oneRequester(impl.Requester{Face: 1, Nonce: nonce, Expiry: 14}, true)
	}
	for _, nonce := range noNonces {
		oneRequester(impl.Requester{Face: 1, Nonce: nonce, Expiry: 14}, false)
	}
	// The chapter sets no limits to the time until when a requester waits.
	for _, expiry := range slices.Concat(pendingTimes, anyIntegers) {
		oneRequester(impl.Requester{Face: 1, Nonce: 7, Expiry: expiry}, true)
	}
}

func TestValidPendingOfEachLastSent(t *testing.T) {
	for _, sent := range slices.Concat(pendingTimes, anyIntegers, []int{impl.MaxTime / 2}) {
		p := pendingOf("/a 1?7~14")[0]
		p.LastSent = sent
		checkOneElement(t, p, sent >= 0 && sent <= 100000)
	}
}

// Faces ascend strictly, whatever the nonces: two requesters may have the same nonce, but not the same face.
func TestValidPendingOfSeveralRequesters(t *testing.T) {
	for _, digits := range sequences([]string{"-1", "0", "1", "2", "5", "6", "7"}, 4) {
		p := impl.PendingInterest{Name: nameOf("a")}
		for _, digit := range digits {
			p.Requesters = append(p.Requesters, impl.Requester{Face: integer(digit), Nonce: 7, Expiry: 14})
		}
		l := []impl.PendingInterest{numberedPending(1)[0], p}
		checkValidPending(t, l, model13Valid(l))
	}
	for set := range 128 {
		ascending := impl.PendingInterest{Name: nameOf("a")}
		for _, face := range faces {
			if set>>face%2 == 1 {
				ascending.Requesters = append(ascending.Requesters, impl.Requester{Face: face, Nonce: 100 - face, Expiry: 50 - face})
			}
		}
		checkValidPending(t, []impl.PendingInterest{ascending}, set > 0)
		if len(ascending.Requesters) > 1 {
			slices.Reverse(ascending.Requesters)
			checkValidPending(t, []impl.PendingInterest{ascending}, false)
		}
	}
	// A nonce that is not valid, behind others that are.
	for _, s := range []string{"0?1~1 1?-1~1", "0?1~1 1?1000001~1", "0?1000001~1 1?1~1", "0?1~1 1?-1~1 2?1~1"} {
		checkOneElement(t, impl.PendingInterest{Name: nameOf("a"), Requesters: requestersOf(s)}, false)
	}
	for _, s := range []string{"0?1~1 1?1~1", "0?1000000~1 6?0~1", "0?9~9 1?8~8 2?7~7 3?6~6 4?5~5 5?4~4 6?3~3"} {
		checkOneElement(t, impl.PendingInterest{Name: nameOf("a"), Requesters: requestersOf(s)}, true)
	}
}

func TestIsLoop(t *testing.T) {
	cases := []struct {
		pending, seen []string
		asked         string
		want          bool
	}{
		{nil, nil, "/a?7~4", false}, {[]string{"/a 1?7~14"}, nil, "/a?7~4", true}, {[]string{"/a 1?7~14"}, nil, "/a?8~4", false}, {nil, []string{"/a?7"}, "/a?7~4", true}, {nil, []string{"/a?7"}, "/a?8~4", false},
		// Each requester, wherever it is, and each element with this name.
		{[]string{"/a 0?5~14 1?6~14 2?7~14"}, nil, "/a?5~4", true}, {[]string{"/a 0?5~14 1?6~14 2?7~14"}, nil, "/a?6~4", true}, {[]string{"/a 0?5~14 1?6~14 2?7~14"}, nil, "/a?7~4", true}, {[]string{"/a 0?5~14 1?6~14 2?7~14"}, nil, "/a?2~4", false}, {[]string{"/b 1?5~14", "/a 1?6~14", "/c 1?7~14"}, nil, "/a?6~4", true},
		{[]string{"/a 1?6~14", "/a 1?7~14"}, nil, "/a?7~4", true}, {[]string{"/a 1?6~14", "/b 1?8~14", "/a 1?5~14 2?7~14"}, nil, "/a?7~4", true}, {[]string{"/a", "/a 1?7~14"}, nil, "/a?7~4", true}, {[]string{"/a @7"}, nil, "/a?7~4", false},
		// The nonce of another name, of which one is under the other or not.
		{[]string{"/b 1?7~14"}, nil, "/a?7~4", false}, {[]string{"/a/b 1?7~14"}, nil, "/a?7~4", false}, {[]string{"/a 1?7~14"}, nil, "/a/b?7~4", false}, {[]string{"/a 1?6~14", "/b 1?7~14"}, nil, "/a?7~4", false}, {nil, []string{"/b?7", "/a?6", "/a/b?7", "/aa?7"}, "/a?7~4", false},
		// Neither a face nor an expiry nor the time of sending is a nonce, and a requester that waits no longer counts.
		{[]string{"/a 7?1~1"}, nil, "/a?7~4", false}, {[]string{"/a 1?1~7"}, nil, "/a?7~4", false}, {[]string{"/a 1?7~-14"}, nil, "/a?7~4", true}, {[]string{"/a 1?4~14"}, nil, "/a?7~4", false},
		// Each completed nonce, wherever it is.
		{nil, []string{"/a?5", "/b?6", "/a?7"}, "/a?7~4", true}, {nil, []string{"/a?7", "/b?6", "/a?5"}, "/a?7~4", true}, {nil, []string{"/b?7", "/a?7", "/b?6"}, "/a?7~4", true}, {[]string{"/a 1?6~14"}, []string{"/b?7", "/a?5"}, "/a?7~4", false}, {[]string{"/a 1?6~14"}, []string{"/a?7"}, "/a?7~4", true}, {[]string{"/b 1?7~14"}, []string{"/a?7"}, "/a?7~4", true},
		// At the limits, and interests that are not valid.
		{[]string{"/a 1?0~14"}, nil, "/a?0~4", true}, {[]string{"/a"}, nil, "/a?0~4", false}, {[]string{"/a 1?1000000~14"}, nil, "/a?1000000~4", true}, {[]string{"/a 1?-1~14"}, nil, "/a?-1~0", true}, {nil, []string{"/a?1000001"}, "/a?1000001~99", true}, {[]string{"/ 1?7~14"}, nil, "/?7~4", true}, {nil, []string{"/?7"}, "/?7~4", true}, {nil, []string{"/A?7", "/a?7"}, "/A?7~4", true}, {[]string{"/A 1?7~14"}, nil, "/a?7~4", false},
	}
	for _, c := range cases {
		checkLoop(t, pendingOf(c.pending...), seenOf(c.seen...), asked(c.asked), c.want)
	}
	for _, l := range emptyPendings {
		for _, s := range emptySeens {
			for _, text := range []string{"/a?7~4", "/n000?0~4", "/?0~0"} {
				checkLoop(t, l, s, asked(text), false)
			}
		}
	}
}

func TestIsLoopOfEachNonce(t *testing.T) {
	numbers := slices.Concat(nonces, noNonces)
	for _, a := range numbers {
		for _, b := range numbers {
			w := interestOf("/a", a, 3, 4)
			p := impl.PendingInterest{Name: nameOf("a"), Requesters: []impl.Requester{{Face: 1, Nonce: b, Expiry: 14}}}
			checkLoop(t, []impl.PendingInterest{p}, nil, w, a == b)
			checkLoop(t, nil, []impl.SeenNonce{{Name: nameOf("a"), Nonce: b}}, w, a == b)
		}
	}
}

// The lists may be as long as they like: each position of them counts, also behind their limits.
func TestIsLoopAtEachPosition(t *testing.T) {
	for _, length := range []int{1, 2, 11, 12, 13, 24, 25, 40} {
		l, s := numberedPending(length), numberedSeen(length)
		for at := range length {
			w := impl.Interest{Name: numberedName(at), Nonce: at, HopLimit: 3, Lifetime: 4}
			checkLoop(t, l, nil, w, true)
			w.Nonce = at + 100
			checkLoop(t, l, nil, w, true)
			w.Nonce = at + 1
			checkLoop(t, l, nil, w, false)
			w.Name = s[at].Name
			w.Nonce = at
			checkLoop(t, nil, s, w, true)
			w.Nonce = at + 1
			checkLoop(t, nil, s, w, false)
		}
	}
}

func TestAddRequester(t *testing.T) {
	cases := []struct {
		before []string
		asked  string
		face   int
		now    int
		after  []string
	}{
		// A new element, always at the end, and sent at 0.
		{nil, "/a?7~4", 2, 10, []string{"/a 2?7~14 @0"}}, {nil, "/a?0~1", 0, 0, []string{"/a 0?0~1"}}, {nil, "/a/1?1000000~20", 6, 100000, []string{"/a/1 6?1000000~100020"}}, {[]string{"/b 1?7~14 @9"}, "/a?7~4", 2, 10, []string{"/b 1?7~14 @9", "/a 2?7~14"}},
		{[]string{"/a 1?7~14", "/c 1?7~14"}, "/b?7~4", 2, 10, []string{"/a 1?7~14", "/c 1?7~14", "/b 2?7~14"}}, {[]string{"/a/b 1?7~14", "/aa 1?7~14"}, "/a?7~4", 1, 10, []string{"/a/b 1?7~14", "/aa 1?7~14", "/a 1?7~14"}}, {[]string{"/a 1?7~14"}, "/a/b?7~4", 1, 10, []string{"/a 1?7~14", "/a/b 1?7~14"}},
		// Before, between and behind the others; LastSent and the other elements stay as they are.
		{[]string{"/a 2?7~14 @9"}, "/a?8~4", 1, 12, []string{"/a 1?8~16 2?7~14 @9"}}, {[]string{"/a 2?7~14 @9"}, "/a?8~4", 3, 12, []string{"/a 2?7~14 3?8~16 @9"}}, {[]string{"/a 1?7~14 3?6~15 @9"}, "/a?8~4", 2, 12, []string{"/a 1?7~14 2?8~16 3?6~15 @9"}}, {[]string{"/a 1?7~14 6?6~15"}, "/a?8~4", 0, 12, []string{"/a 0?8~16 1?7~14 6?6~15"}},
		{[]string{"/a 0?7~14 5?6~15"}, "/a?8~4", 6, 12, []string{"/a 0?7~14 5?6~15 6?8~16"}}, {[]string{"/b 1?5~14", "/a 1?7~14 5?6~15 @3", "/c 2?4~14"}, "/a?8~4", 3, 12, []string{"/b 1?5~14", "/a 1?7~14 3?8~16 5?6~15 @3", "/c 2?4~14"}},
		// A face that is there already: it is replaced, also by the same nonce and by one that waits no longer than the one before.
		{[]string{"/a 2?7~14 @9"}, "/a?8~4", 2, 12, []string{"/a 2?8~16 @9"}}, {[]string{"/a 2?7~14"}, "/a?7~4", 2, 10, []string{"/a 2?7~14"}}, {[]string{"/a 2?7~99"}, "/a?8~4", 2, 12, []string{"/a 2?8~16"}}, {[]string{"/a 1?5~13 2?7~14 3?6~15"}, "/a?8~4", 1, 12, []string{"/a 1?8~16 2?7~14 3?6~15"}},
		{[]string{"/a 1?5~13 2?7~14 3?6~15"}, "/a?8~4", 2, 12, []string{"/a 1?5~13 2?8~16 3?6~15"}}, {[]string{"/a 1?5~13 2?7~14 3?6~15"}, "/a?8~4", 3, 12, []string{"/a 1?5~13 2?7~14 3?8~16"}}, {[]string{"/a 0?5~13"}, "/a?8~4", 0, 12, []string{"/a 0?8~16"}},
		// Two requesters may have the same nonce, and one whose time has expired stays until it is removed.
		{[]string{"/a 1?7~14"}, "/a?7~4", 2, 12, []string{"/a 1?7~14 2?7~16"}}, {[]string{"/a 1?5~13"}, "/a?8~4", 2, 50, []string{"/a 1?5~13 2?8~54"}}, {[]string{"/b 1?5~13"}, "/a?8~4", 2, 50, []string{"/b 1?5~13", "/a 2?8~54"}},
		// Of several elements with the name, the first one; and an element without requesters.
		{[]string{"/b 1?1~1", "/a 1?5~9 @3", "/a 2?6~9 @4"}, "/a?8~4", 2, 12, []string{"/b 1?1~1", "/a 1?5~9 2?8~16 @3", "/a 2?6~9 @4"}}, {[]string{"/a @5", "/a 2?6~9"}, "/a?8~4", 2, 12, []string{"/a 2?8~16 @5", "/a 2?6~9"}}, {[]string{"/b", "/a @5"}, "/a?8~4", 0, 12, []string{"/b", "/a 0?8~16 @5"}},
		// Requesters that do not ascend: those with the face are removed, and the first one left with a greater face is looked for.
		{[]string{"/a 5?1~9 1?2~9"}, "/a?8~4", 3, 12, []string{"/a 3?8~16 5?1~9 1?2~9"}}, {[]string{"/a 1?1~9 5?2~9 3?3~9"}, "/a?8~4", 4, 12, []string{"/a 1?1~9 4?8~16 5?2~9 3?3~9"}}, {[]string{"/a 2?1~9 1?2~9 2?3~9 4?4~9"}, "/a?8~4", 2, 12, []string{"/a 1?2~9 2?8~16 4?4~9"}}, {[]string{"/a 4?1~9 4?2~9"}, "/a?8~4", 4, 12, []string{"/a 4?8~16"}},
		{[]string{"/a 6?1~9 5?2~9 6?3~9"}, "/a?8~4", 6, 12, []string{"/a 5?2~9 6?8~16"}}, {[]string{"/a 3?1~9 3?2~9 1?3~9"}, "/a?8~4", 2, 12, []string{"/a 2?8~16 3?1~9 3?2~9 1?3~9"}}, {[]string{"/a -1?1~9 7?2~9"}, "/a?8~4", 0, 12, []string{"/a -1?1~9 0?8~16 7?2~9"}}, {[]string{"/a -1?-5~9 7?2~9 @-3"}, "/a?8~4", 6, 12, []string{"/a -1?-5~9 6?8~16 7?2~9 @-3"}},
		// Other elements that are not valid stay as they are.
		{[]string{"/A 1?7~14", "/", "/a//b @-5"}, "/a?8~4", 6, 12, []string{"/A 1?7~14", "/", "/a//b @-5", "/a 6?8~16"}}, {nil, "/a?8~4", 3, -20, []string{"/a 3?8~-16"}},
	}
	for _, c := range cases {
		checkAddRequester(t, pendingOf(c.before...), asked(c.asked), c.face, c.now, pendingOf(c.after...), true)
	}
	for _, none := range emptyPendings {
		checkAddRequester(t, none, asked("/a?7~4"), 2, 10, pendingOf("/a 2?7~14"), true)
	}
	for _, none := range emptyRequesters {
		checkAddRequester(t, []impl.PendingInterest{{Name: nameOf("a"), Requesters: none, LastSent: 3}}, asked("/a?7~4"), 2, 10, pendingOf("/a 2?7~14 @3"), true)
	}
}

// A new name takes the last free element, and none behind it; a name that is there needs none.
func TestTheLastFreeElement(t *testing.T) {
	for _, length := range []int{0, 1, 10, 11, 12, 13, 14, 23, 24, 25, 255, 256, 257, 300} {
		l := numberedPending(length)
		if length < 12 {
			checkAddRequester(t, l, asked("/a?7~4"), 2, 10, append(numberedPending(length), pendingOf("/a 2?7~14")...), true)
		} else {
			checkAddRequester(t, l, asked("/a?7~4"), 2, 10, numberedPending(length), false)
		}
		for _, at := range []int{0, 1, 5, 11, 12, length - 1} {
			if at < 0 || at >= length {
				continue
			}
			want := numberedPending(length)
			want[at].Requesters = slices.Insert(want[at].Requesters, 1, requesterOf("2?7~14"))
			w := asked("/a?7~4")
			w.Name = numberedName(at)
			checkAddRequester(t, l, w, 2, 10, want, true)
		}
	}
}

// Once an element is satisfied, or all of its requesters have expired, another name may take its place.
func TestAFreeElementIsTakenAgain(t *testing.T) {
	l := []impl.PendingInterest{}
	ok := false
	for i := range 12 {
		w := impl.Interest{Name: numberedName(i), Nonce: i, HopLimit: 3, Lifetime: i + 1}
		if l, ok = impl.AddRequester(l, w, i%7, 10); !ok || len(l) != i+1 || !impl.ValidPending(l) {
			t.Fatalf("after %d names: %s, %v", i+1, pendingText(l), ok)
		}
	}
	full := pendingText(l)
	late := asked("/late?99~4")
	l, ok = impl.AddRequester(l, late, 0, 10)
	if ok || pendingText(l) != full || impl.HasPending(l, late.Name) {
		t.Fatalf("AddRequester to a full list = %s, %v", pendingText(l), ok)
	}
	for i := range 12 {
		left, _ := impl.Satisfy(l, numberedName(i))
		checkAddRequester(t, left, late, 0, 10, append(slices.Clone(left), pendingOf("/late 0?99~14")...), true)
	}
	checkAddRequester(t, impl.ExpirePending(l, 11), late, 0, 11, l, false)
	left := impl.ExpirePending(l, 12)
	if len(left) != 11 {
		t.Fatalf("ExpirePending(%s, 12) = %s", full, pendingText(left))
	}
	checkAddRequester(t, left, late, 0, 12, append(slices.Clone(left), pendingOf("/late 0?99~16")...), true)
	// What is satisfied has no place any more, so that the same name takes one again, at the end.
	left, _ = impl.Satisfy(l, numberedName(3))
	again, ok := impl.AddRequester(left, impl.Interest{Name: numberedName(3), Nonce: 50, Lifetime: 1}, 1, 10)
	if !ok || len(again) != 12 || impl.FormatName(again[11].Name) != "/n003" || !impl.ValidPending(again) {
		t.Errorf("AddRequester of a satisfied name = %s, %v", pendingText(again), ok)
	}
}

func TestAddRequesterOfEachFace(t *testing.T) {
	for set := range 128 {
		p := impl.PendingInterest{Name: nameOf("a"), LastSent: 3}
		for _, face := range faces {
			if set>>face%2 == 1 {
				p.Requesters = append(p.Requesters, impl.Requester{Face: face, Nonce: face, Expiry: 10 + face})
			}
		}
		l := []impl.PendingInterest{p}
		for _, face := range faces {
			want, _ := model13Add(l, asked("/a?77~4"), face, 20)
			checkAddRequester(t, l, asked("/a?77~4"), face, 20, want, true)
			checkValidPending(t, want, true)
		}
		for _, face := range notFaces {
			checkAddRequester(t, l, asked("/a?77~4"), face, 20, l, false)
		}
	}
	for _, length := range []int{0, 1, 11, 12, 13} {
		l := numberedPending(length)
		for _, face := range slices.Concat(faces, notFaces, anyIntegers) {
			for _, text := range []string{"/a?77~4", "/n000?77~4"} {
				want, ok := model13Add(l, asked(text), face, 20)
				checkAddRequester(t, l, asked(text), face, 20, want, ok)
			}
		}
	}
}

func TestAddRequesterOfEachInterest(t *testing.T) {
	for i, w := range validInterests() {
		face, now := i%7, pendingTimes[i%len(pendingTimes)]
		added := impl.PendingInterest{Name: w.Name, Requesters: []impl.Requester{{Face: face, Nonce: w.Nonce, Expiry: now + w.Lifetime}}}
		checkAddRequester(t, nil, w, face, now, []impl.PendingInterest{added}, true)
		l := numberedPending(3)
		checkAddRequester(t, l, w, face, now, append(numberedPending(3), added), true)
		l[1].Name = w.Name
		want, _ := model13Add(l, w, face, now)
		checkAddRequester(t, l, w, face, now, want, true)
	}
	// A name that is not valid gets no requester even if an element has it.
	for i, w := range invalidInterests() {
		for _, length := range []int{0, 1, 3, 11, 12} {
			l := numberedPending(length)
			checkAddRequester(t, l, w, i%7, 10, l, false)
			if length > 0 {
				l[length/2].Name = w.Name
				checkAddRequester(t, l, w, i%7, 10, l, false)
				checkAddRequester(t, l, w, 7, 10, l, false)
			}
		}
	}
}

// Now and the lifetime are added as integers of 64 bits, that is with a wraparound.
func TestAddRequesterOfEachTime(t *testing.T) {
	for _, now := range slices.Concat(pendingTimes, anyIntegers) {
		for _, lifetime := range lifetimes {
			w := interestOf("/a", 7, 0, lifetime)
			for _, l := range [][]impl.PendingInterest{nil, pendingOf("/a 2?1~5 @3"), pendingOf("/a 1?1~5 3?2~9")} {
				want, _ := model13Add(l, w, 2, now)
				checkAddRequester(t, l, w, 2, now, want, true)
			}
		}
	}
	checkAddRequester(t, nil, asked("/a?7~4"), 2, math.MaxInt-4, pendingOf("/a 2?7~9223372036854775807"), true)
	checkAddRequester(t, nil, asked("/a?7~4"), 2, math.MaxInt-3, pendingOf("/a 2?7~-9223372036854775808"), true)
	checkAddRequester(t, nil, asked("/a?7~4"), 2, math.MinInt, pendingOf("/a 2?7~-9223372036854775804"), true)
}

func TestHasPendingAndTimesOfSending(t *testing.T) {
	cases := []struct {
		before []string
		name   string
		sent   int
		after  []string
	}{
		{[]string{"/a 1?7~14 @3"}, "/a", 3, []string{"/a 1?7~14 @9"}}, {[]string{"/b 1?7~14 @1", "/a 1?7~14 @3", "/c 1?7~14 @2"}, "/a", 3, []string{"/b 1?7~14 @1", "/a 1?7~14 @9", "/c 1?7~14 @2"}}, {[]string{"/b 1?7~14 @1", "/a 1?7~14 @3"}, "/a", 3, []string{"/b 1?7~14 @1", "/a 1?7~14 @9"}}, {[]string{"/a 1?7~14"}, "/a", 0, []string{"/a 1?7~14 @9"}}, {[]string{"/a 1?7~14 @9"}, "/a", 9, []string{"/a 1?7~14 @9"}}, {[]string{"/a 1?7~14 @50"}, "/a", 50, []string{"/a 1?7~14 @9"}},
		// The first of several elements with the name, also one that was sent at 0 or has no requesters.
		{[]string{"/b @1", "/a 1?7~14 @3", "/a 2?8~15 @4"}, "/a", 3, []string{"/b @1", "/a 1?7~14 @9", "/a 2?8~15 @4"}}, {[]string{"/a", "/a 2?8~15 @4"}, "/a", 0, []string{"/a @9", "/a 2?8~15 @4"}}, {[]string{"/a 1?7~14 @4", "/a @5", "/a @3"}, "/a", 4, []string{"/a 1?7~14 @9", "/a @5", "/a @3"}},
		// Names and times that are not valid.
		{[]string{"/a @1", "/A @-3"}, "/A", -3, []string{"/a @1", "/A @9"}}, {[]string{"/a @1", "/ @2"}, "/", 2, []string{"/a @1", "/ @9"}}, {[]string{"/a @1000000"}, "/a", 1000000, []string{"/a @9"}}, {[]string{"/a//b @5", "/a/b @6"}, "/a//b", 5, []string{"/a//b @9", "/a/b @6"}},
	}
	for _, c := range cases {
		l, n := pendingOf(c.before...), named(c.name)
		checkSent(t, l, n, 9)
		checkPending(t, fmt.Sprintf("MarkSent(%q, %s, 9)", c.before, c.name), impl.MarkSent(l, n, 9), pendingOf(c.after...))
		if got := impl.LastSentAt(l, n); got != c.sent || !impl.HasPending(l, n) {
			t.Errorf("LastSentAt(%q, %s) = %d, want %d; HasPending = %v", c.before, c.name, got, c.sent, impl.HasPending(l, n))
		}
		if got := impl.LastSentAt(impl.MarkSent(l, n, 9), n); got != 9 {
			t.Errorf("LastSentAt(MarkSent(%q, %s, 9)) = %d", c.before, c.name, got)
		}
	}
	for _, none := range emptyPendings {
		for _, n := range slices.Concat(emptyNames, namesOf("/a", "/n000", "/A")) {
			checkSent(t, none, n, 9)
		}
	}
}

// A name that no element has: none of those that it is under, or that are under it, is meant.
func TestNamesThatNoElementHas(t *testing.T) {
	for _, texts := range [][]string{{"/a/b 1?7~14 @3"}, {"/b 1?7~14 @3", "/aa 1?7~14 @3"}, {"/ 1?7~14 @3"}, {"/A 1?7~14 @3", "/a/ 1?7~14 @3"}, {"/a/a/a 1?7~14 @3", "/a/a 1?7~14 @3"}} {
		l, n := pendingOf(texts...), nameOf("a")
		if impl.HasPending(l, n) || impl.LastSentAt(l, n) != 0 {
			t.Errorf("HasPending(%q, /a) = %v, LastSentAt = %d", texts, impl.HasPending(l, n), impl.LastSentAt(l, n))
		}
		checkSent(t, l, n, 9)
		checkSatisfy(t, l, n, l, nil)
	}
}

func TestMarkSentOfEachTime(t *testing.T) {
	for _, now := range slices.Concat(pendingTimes, anyIntegers) {
		for _, length := range []int{1, 2, 12, 13} {
			for at := range length {
				l := numberedPending(length)
				want := numberedPending(length)
				want[at].LastSent = now
				checkPending(t, "MarkSent", impl.MarkSent(l, numberedName(at), now), want)
				if got := impl.LastSentAt(want, numberedName(at)); got != now {
					t.Errorf("LastSentAt(%s, /n%03d) = %d", pendingText(want), at, got)
				}
			}
			checkPending(t, "MarkSent of a name that no element has", impl.MarkSent(numberedPending(length), numberedName(length), now), numberedPending(length))
		}
	}
}

func TestSatisfy(t *testing.T) {
	cases := []struct {
		before     []string
		name       string
		after      []string
		requesters string
	}{
		{nil, "/a", nil, ""}, {nil, "/", nil, ""}, {[]string{"/a 1?7~14 2?8~16 @3"}, "/a", nil, "1?7~14 2?8~16"}, {[]string{"/a 1?7~14"}, "/b", []string{"/a 1?7~14"}, ""},
		{[]string{"/a 1?7~14", "/b 2?8~15", "/c 3?9~16"}, "/a", []string{"/b 2?8~15", "/c 3?9~16"}, "1?7~14"}, {[]string{"/a 1?7~14", "/b 2?8~15 @5", "/c 3?9~16"}, "/b", []string{"/a 1?7~14", "/c 3?9~16"}, "2?8~15"}, {[]string{"/a 1?7~14", "/b 2?8~15", "/c 3?9~16"}, "/c", []string{"/a 1?7~14", "/b 2?8~15"}, "3?9~16"},
		{[]string{"/a 0?1~1 1?2~2 2?3~3 3?4~4 4?5~5 5?6~6 6?7~7"}, "/a", nil, "0?1~1 1?2~2 2?3~3 3?4~4 4?5~5 5?6~6 6?7~7"},
		// The first of several elements with the name only, also if it has no requesters.
		{[]string{"/a 1?7~14 @1", "/a 2?8~15 @2"}, "/a", []string{"/a 2?8~15 @2"}, "1?7~14"}, {[]string{"/b", "/a 1?7~14", "/b 1?1~1", "/a 2?8~15"}, "/a", []string{"/b", "/b 1?1~1", "/a 2?8~15"}, "1?7~14"}, {[]string{"/a", "/a 2?8~15"}, "/a", []string{"/a 2?8~15"}, ""}, {[]string{"/b 1?7~14", "/a @5"}, "/a", []string{"/b 1?7~14"}, ""},
		// Requesters are returned as they are, valid or not, whether their time has expired or not.
		{[]string{"/a 5?7~-14 -1?-8~0 5?7~-14"}, "/a", nil, "5?7~-14 -1?-8~0 5?7~-14"}, {[]string{"/A 1?7~14", "/a 2?8~15"}, "/A", []string{"/a 2?8~15"}, "1?7~14"}, {[]string{"/a 2?8~15", "/ 1?7~14"}, "/", []string{"/a 2?8~15"}, "1?7~14"},
	}
	for _, c := range cases {
		checkSatisfy(t, pendingOf(c.before...), named(c.name), pendingOf(c.after...), requestersOf(c.requesters))
	}
	for _, none := range emptyPendings {
		for _, n := range slices.Concat(emptyNames, namesOf("/a", "/n000")) {
			checkSatisfy(t, none, n, nil, nil)
		}
	}
	for length := 1; length <= 14; length++ {
		for at := range length {
			l := numberedPending(length)
			want := slices.Delete(numberedPending(length), at, at+1)
			checkSatisfy(t, l, numberedName(at), want, l[at].Requesters)
		}
		checkSatisfy(t, numberedPending(length), numberedName(length), numberedPending(length), nil)
	}
}

func TestExpirePending(t *testing.T) {
	cases := []struct {
		before []string
		now    int
		after  []string
	}{
		{nil, 0, nil}, {[]string{"/a 1?7~50"}, 49, []string{"/a 1?7~50"}}, {[]string{"/a 1?7~50"}, 50, []string{"/a 1?7~50"}}, {[]string{"/a 1?7~50"}, 51, nil}, {[]string{"/a 1?7~0"}, 0, []string{"/a 1?7~0"}}, {[]string{"/a 1?7~0"}, 1, nil}, {[]string{"/a 1?7~0"}, -1, []string{"/a 1?7~0"}},
		// Some of the requesters, wherever they are; LastSent and the order stay as they are.
		{[]string{"/a 1?7~49 2?8~50 3?9~51 @3"}, 50, []string{"/a 2?8~50 3?9~51 @3"}}, {[]string{"/a 1?7~51 2?8~49 3?9~50 @3"}, 50, []string{"/a 1?7~51 3?9~50 @3"}}, {[]string{"/a 1?7~50 2?8~50 3?9~49"}, 50, []string{"/a 1?7~50 2?8~50"}}, {[]string{"/a 1?7~49 2?8~49 3?9~50"}, 50, []string{"/a 3?9~50"}},
		// Elements whose requesters have all expired, wherever they are.
		{[]string{"/a 1?7~49 2?8~48", "/b 1?7~50"}, 50, []string{"/b 1?7~50"}}, {[]string{"/b 1?7~50 @2", "/a 1?7~49 2?8~48 @60", "/c 1?7~50 @1"}, 50, []string{"/b 1?7~50 @2", "/c 1?7~50 @1"}}, {[]string{"/c 1?7~49", "/b 2?8~49", "/a 3?9~49"}, 50, nil}, {[]string{"/a 1?7~49", "/b 2?8~49 3?7~50", "/c 1?1~1"}, 50, []string{"/b 3?7~50"}}, {[]string{"/b 1?7~50", "/a 1?7~49"}, 50, []string{"/b 1?7~50"}},
		// An element that has had no requesters is removed, too, whenever it was sent.
		{[]string{"/a", "/b 1?7~50", "/c @90"}, 50, []string{"/b 1?7~50"}}, {[]string{"/a @90"}, -90, nil},
		// When an element was sent does not matter, nor do a face and a nonce.
		{[]string{"/a 1?7~50 @0", "/b 1?90~49 @90"}, 50, []string{"/a 1?7~50 @0"}}, {[]string{"/a 90?90~49 1?1~50"}, 50, []string{"/a 1?1~50"}},
		// In lists that are not valid, each requester and each element is judged by itself.
		{[]string{"/a 1?7~49", "/a 1?7~50", "/a 2?8~49 2?8~50 1?7~49 1?7~51"}, 50, []string{"/a 1?7~50", "/a 2?8~50 1?7~51"}}, {[]string{"/A 1?7~50", "/ 1?7~50", "/A 1?7~49"}, 50, []string{"/A 1?7~50", "/ 1?7~50"}}, {[]string{"/a -1?-7~-5 7?8~-4"}, -4, []string{"/a 7?8~-4"}},
	}
	for _, c := range cases {
		checkExpire(t, pendingOf(c.before...), c.now, pendingOf(c.after...))
	}
	for _, now := range pendingTimes {
		for _, none := range emptyPendings {
			checkExpire(t, none, now, nil)
		}
		for _, none := range emptyRequesters {
			checkExpire(t, []impl.PendingInterest{{Name: nameOf("a"), Requesters: none, LastSent: 3}}, now, nil)
		}
	}
}

func TestExpirePendingOfEachTime(t *testing.T) {
	times := slices.Concat(pendingTimes, anyIntegers)
	for _, expiry := range times {
		l := pendingOf("/a 1?7~0 @3")
		l[0].Requesters[0].Expiry = expiry
		for _, now := range times {
			want := l
			if expiry < now {
				want = nil
			}
			checkExpire(t, l, now, want)
		}
	}
}

// Each set of the requesters of an element, and each set of the elements of a list, expires.
func TestExpirePendingOfEachSet(t *testing.T) {
	for set := range 128 {
		p := impl.PendingInterest{Name: nameOf("a"), LastSent: 3}
		for _, face := range faces {
			p.Requesters = append(p.Requesters, impl.Requester{Face: face, Nonce: face, Expiry: 49 + set>>face%2})
		}
		l := []impl.PendingInterest{p, pendingOf("/b 1?7~50")[0]}
		checkExpire(t, l, 50, model13Expire(l, 50))
	}
	for set := range 1 << 12 {
		l, want := numberedPending(12), []impl.PendingInterest{}
		for i := range l {
			l[i].Requesters[0].Expiry, l[i].Requesters[1].Expiry = 49, 49+set>>i%2
			if set>>i%2 == 1 {
				left := l[i]
				left.Requesters = left.Requesters[1:]
				want = append(want, left)
			}
		}
		checkExpire(t, l, 50, want)
	}
}

func TestAddSeenNonce(t *testing.T) {
	for _, none := range emptySeens {
		checkSeen(t, none, nameOf("a"), 7, seenOf("/a?7"))
	}
	checkSeen(t, seenOf("/b?9"), nameOf("a"), 7, seenOf("/b?9", "/a?7"))
	// One that is there already is appended again.
	checkSeen(t, seenOf("/a?7", "/b?9"), nameOf("a"), 7, seenOf("/a?7", "/b?9", "/a?7"))
	for length := range 40 {
		want := append(numberedSeen(length), seenOf("/a?7")...)
		if length >= 24 {
			// Only the first one is removed, also if there are still more than MaxSeen.
			want = want[1:]
		}
		checkSeen(t, numberedSeen(length), nameOf("a"), 7, want)
	}
	checkSeen(t, numberedSeen(300), nameOf("a"), 7, append(numberedSeen(300)[1:], seenOf("/a?7")...))
	// Neither the name nor the nonce need be valid.
	for _, n := range slices.Concat(emptyNames, notNames, wantNames) {
		for _, nonce := range slices.Concat(nonces, noNonces) {
			for _, length := range []int{0, 3, 23, 24, 25} {
				want := append(numberedSeen(length), impl.SeenNonce{Name: n, Nonce: nonce})
				checkSeen(t, numberedSeen(length), n, nonce, want[max(0, min(1, len(want)-24)):])
			}
		}
	}
}

// The nonces that were completed last are kept, as many as there may be, and stop a loop.
func TestTheNoncesSeenLastAreKept(t *testing.T) {
	s := []impl.SeenNonce{}
	for i := range 100 {
		s = impl.AddSeenNonce(s, numberedName(i%3), i)
		if len(s) != min(i+1, 24) {
			t.Fatalf("after %d nonces, there are %d", i+1, len(s))
		}
		for j := range i + 2 {
			w := impl.Interest{Name: numberedName(j % 3), Nonce: j, Lifetime: 1}
			checkLoop(t, nil, s, w, j <= i && j > i-24)
			w.Name = numberedName((j + 1) % 3)
			checkLoop(t, nil, s, w, false)
		}
	}
}

func checkEqualPendings(t *testing.T, a, b []impl.PendingInterest, want bool) {
	t.Helper()
	if impl.EqualPending(a, b) != want || impl.EqualPending(b, a) != want {
		t.Errorf("EqualPending of %s and %s = %v, %v, want %v", pendingText(a), pendingText(b), impl.EqualPending(a, b), impl.EqualPending(b, a), want)
	}
}

func TestEqualPending(t *testing.T) {
	for _, a := range emptyPendings {
		for _, b := range emptyPendings {
			checkEqualPendings(t, a, b, true)
		}
		checkEqualPendings(t, a, make([]impl.PendingInterest, 1), false)
		checkEqualPendings(t, a, numberedPending(1), false)
	}
	for _, n := range emptyNames {
		for _, m := range emptyNames {
			for _, a := range emptyRequesters {
				for _, b := range emptyRequesters {
					checkEqualPendings(t, []impl.PendingInterest{{Name: n, Requesters: a}}, []impl.PendingInterest{{Name: m, Requesters: b}}, true)
					checkEqualPendings(t, []impl.PendingInterest{{Name: n, Requesters: a}}, []impl.PendingInterest{{Name: m, Requesters: make([]impl.Requester, 1)}}, false)
				}
			}
		}
	}
	// The order matters, of the elements and of the requesters.
	checkEqualPendings(t, pendingOf("/a 1?7~14", "/b 1?7~14"), pendingOf("/b 1?7~14", "/a 1?7~14"), false)
	checkEqualPendings(t, pendingOf("/a 1?7~14 2?8~15"), pendingOf("/a 2?8~15 1?7~14"), false)
	// A requester belongs to its element.
	checkEqualPendings(t, pendingOf("/a 1?7~14 2?8~15", "/b"), pendingOf("/a 1?7~14", "/b 2?8~15"), false)
	for _, a := range slices.Concat(pendingTimes, anyIntegers) {
		for _, b := range slices.Concat(pendingTimes, anyIntegers) {
			for _, pair := range [][2]impl.PendingInterest{
				{{LastSent: a}, {LastSent: b}},
				{{Requesters: []impl.Requester{{Face: a}}}, {Requesters: []impl.Requester{{Face: b}}}},
				{{Requesters: []impl.Requester{{Nonce: a}}}, {Requesters: []impl.Requester{{Nonce: b}}}},
				{{Requesters: []impl.Requester{{Expiry: a}}}, {Requesters: []impl.Requester{{Expiry: b}}}},
			} {
				checkEqualPendings(t, pair[:1], pair[1:], a == b)
			}
		}
	}
}

func TestEqualPendingOfShortLists(t *testing.T) {
	all := shortPendings()
	for i, a := range all {
		checkEqualPendings(t, a, guardPending(a).list.slice, true)
		for j, b := range all {
			if got := impl.EqualPending(a, b); got != (i == j) {
				t.Fatalf("EqualPending(%s, %s) = %v", pendingText(a), pendingText(b), got)
			}
		}
	}
}

func TestEqualPendingOfOneChange(t *testing.T) {
	changes := map[string]func(p *impl.PendingInterest){
		"the name":               func(p *impl.PendingInterest) { p.Name = numberedName(77) },
		"a part more":            func(p *impl.PendingInterest) { p.Name = nameOf(p.Name.Parts[0], "a") },
		"the time of sending":    func(p *impl.PendingInterest) { p.LastSent++ },
		"no requesters":          func(p *impl.PendingInterest) { p.Requesters = nil },
		"a requester less":       func(p *impl.PendingInterest) { p.Requesters = p.Requesters[:1] },
		"the first requester":    func(p *impl.PendingInterest) { p.Requesters = p.Requesters[1:] },
		"a requester more":       func(p *impl.PendingInterest) { p.Requesters = append(p.Requesters, requesterOf("6?1~1")) },
		"a face":                 func(p *impl.PendingInterest) { p.Requesters[0].Face-- },
		"a nonce":                func(p *impl.PendingInterest) { p.Requesters[0].Nonce++ },
		"an expiry":              func(p *impl.PendingInterest) { p.Requesters[0].Expiry++ },
		"the face of the last":   func(p *impl.PendingInterest) { p.Requesters[1].Face++ },
		"the nonce of the last":  func(p *impl.PendingInterest) { p.Requesters[1].Nonce-- },
		"the expiry of the last": func(p *impl.PendingInterest) { p.Requesters[1].Expiry-- },
	}
	for length := 1; length <= 14; length++ {
		checkEqualPendings(t, numberedPending(length), numberedPending(length), true)
		for at := range length {
			for what, change := range changes {
				l := numberedPending(length)
				change(&l[at])
				if impl.EqualPending(numberedPending(length), l) || impl.EqualPending(l, numberedPending(length)) {
					t.Errorf("EqualPending of %d elements, with a change of %s at %d, = true", length, what, at)
				}
			}
			checkEqualPendings(t, numberedPending(length), slices.Delete(numberedPending(length), at, at+1), false)
		}
	}
}

func TestShortPendingsAgainstTheModel(t *testing.T) {
	seen := seenOf("/a?9", "/d?7", "/A?8", "/?9", "/b?5")
	for _, l := range shortPendings() {
		for _, n := range namesOf("/a", "/b", "/c/d", "/d", "/A", "/c", "/") {
			for _, nonce := range []int{-1, 5, 7, 8, 9} {
				w := impl.Interest{Name: n, Nonce: nonce, HopLimit: 3, Lifetime: 4}
				checkLoop(t, l, seen, w, model13Loop(l, seen, w))
				for face := -1; face <= 7; face++ {
					want, ok := model13Add(l, w, face, 50)
					checkAddRequester(t, l, w, face, 50, want, ok)
				}
			}
			checkSent(t, l, n, 50)
			want, requesters := model13Satisfy(l, n)
			checkSatisfy(t, l, n, want, requesters)
		}
		for _, now := range []int{math.MinInt, 48, 49, 50, 51, math.MaxInt} {
			checkExpire(t, l, now, model13Expire(l, now))
		}
		if t.Failed() {
			return
		}
	}
}

// Names that are not valid may have the same text, and are different all the same.
func TestPendingInterestsOfNamesWithTheSameText(t *testing.T) {
	l, s := []impl.PendingInterest{}, []impl.SeenNonce{}
	for i, n := range sameTexts {
		l = append(l, impl.PendingInterest{Name: n, Requesters: []impl.Requester{{Face: i % 7, Nonce: i, Expiry: i}}, LastSent: i + 1})
		s = append(s, impl.SeenNonce{Name: n, Nonce: i})
	}
	for i, n := range sameTexts {
		checkSent(t, l, n, 50)
		want, requesters := model13Satisfy(l, n)
		checkSatisfy(t, l, n, want, requesters)
		for nonce := range sameTexts {
			w := impl.Interest{Name: n, Nonce: nonce, Lifetime: 1}
			checkLoop(t, l, nil, w, nonce == i)
			checkLoop(t, nil, s, w, nonce == i)
			after, ok := model13Add(l, w, 3, 50)
			checkAddRequester(t, l, w, 3, 50, after, ok)
		}
	}
}

// Promise 13: from when it is added until its name is satisfied or its time has expired, a requester waits, and no longer.
func TestARequesterWaitsUntilItIsSatisfiedOrItsTimeHasExpired(t *testing.T) {
	l := []impl.PendingInterest{}
	// waiting has the expiry of each face, by the text of the name.
	waiting := map[string]map[int]int{}
	number, refused, satisfied, expired := uint32(13), 0, 0, 0
	for step := range 20000 {
		number = number*1664525 + 1013904223
		now, n, face := step/4, numberedName(int(number>>16)%16), int(number>>24)%7
		text := impl.FormatName(n)
		w := impl.Interest{Name: n, Nonce: step, HopLimit: 3, Lifetime: 1 + int(number>>20)%20}
		next, ok := impl.AddRequester(l, w, face, now)
		if wantOK := waiting[text] != nil || len(waiting) < 12; ok != wantOK {
			t.Fatalf("step %d: AddRequester(%s, %s) = %v", step, pendingText(l), interestText(w), ok)
		}
		l = next
		if !ok {
			refused++
		} else if waiting[text] == nil {
			waiting[text] = map[int]int{face: now + w.Lifetime}
		} else {
			waiting[text][face] = now + w.Lifetime
		}
		if number>>9%5 == 0 {
			left, requesters := impl.Satisfy(l, numberedName(int(number>>12)%16))
			asking := waiting[impl.FormatName(numberedName(int(number>>12)%16))]
			if len(requesters) != len(asking) {
				t.Fatalf("step %d: Satisfy returns %s, want %v", step, requestersText(requesters), asking)
			}
			for _, r := range requesters {
				if expiry, ok := asking[r.Face]; !ok || r.Expiry != expiry {
					t.Fatalf("step %d: Satisfy returns %s, want %v", step, requestersText(requesters), asking)
				}
			}
			delete(waiting, impl.FormatName(numberedName(int(number>>12)%16)))
			satisfied += len(requesters)
			l = left
		}
		if step%4 == 3 {
			l = impl.ExpirePending(l, now)
			expired += expireWaiting(waiting, now)
		}
		checkWaiting(t, l, waiting)
		if t.Failed() {
			t.Fatalf("after step %d", step)
		}
	}
	if refused == 0 || satisfied == 0 || expired == 0 {
		t.Errorf("%d were refused, %d were satisfied and %d have expired", refused, satisfied, expired)
	}
}

func expireWaiting(waiting map[string]map[int]int, now int) int {
	expired := 0
	for text, asking := range waiting {
		for face, expiry := range asking {
			if expiry < now {
				delete(asking, face)
				expired++
			}
		}
		if len(asking) == 0 {
			delete(waiting, text)
		}
	}
	return expired
}

func checkWaiting(t *testing.T, l []impl.PendingInterest, waiting map[string]map[int]int) {
	t.Helper()
	checkValidPending(t, l, true)
	if len(l) != len(waiting) {
		t.Errorf("%s are waiting, want %v", pendingText(l), waiting)
	}
	for _, p := range l {
		asking := waiting[impl.FormatName(p.Name)]
		if len(p.Requesters) != len(asking) || !impl.HasPending(l, p.Name) {
			t.Errorf("%s are waiting, want %v", pendingText(l), waiting)
		}
		for _, r := range p.Requesters {
			if expiry, ok := asking[r.Face]; !ok || r.Expiry != expiry || !impl.IsLoop(l, nil, impl.Interest{Name: p.Name, Nonce: r.Nonce}) {
				t.Errorf("%s are waiting, want %v", pendingText(l), waiting)
			}
		}
	}
}

// A long series of all operations, with times that ascend and times that do not, leaves what the model has, and always a valid list.
func TestSeriesOfOperationsOnPendingInterests(t *testing.T) {
	l, want := []impl.PendingInterest{}, []impl.PendingInterest{}
	number := uint32(5)
	for step := range 20000 {
		number = number*1664525 + 1013904223
		now := step / 3
		if number>>28 < 3 {
			now = int((number >> 8) % 7000)
		}
		n := numberedName(int(number>>16) % 15)
		switch (number >> 10) % 8 {
		case 0, 1, 2, 3:
			w := impl.Interest{Name: n, Nonce: int(number>>12) % 50, Lifetime: 1 + int(number>>20)%20}
			face := int(number>>24)%9 - 1
			var ok, wantOK bool
			l, ok = impl.AddRequester(l, w, face, now)
			if want, wantOK = model13Add(want, w, face, now); ok != wantOK {
				t.Fatalf("AddRequester in step %d = %v", step, ok)
			}
		case 4:
			l, want = impl.MarkSent(l, n, now), model13Mark(want, n, now)
		case 5:
			left, requesters := impl.Satisfy(l, n)
			wantLeft, wantRequesters := model13Satisfy(want, n)
			if !slices.Equal(requesters, wantRequesters) {
				t.Fatalf("Satisfy in step %d = %s, want %s", step, requestersText(requesters), requestersText(wantRequesters))
			}
			l, want = left, wantLeft
		case 6:
			l, want = impl.ExpirePending(l, step/3-10), model13Expire(want, step/3-10)
		default:
			w := impl.Interest{Name: n, Nonce: int(number>>12) % 50}
			checkLoop(t, l, nil, w, model13Loop(want, nil, w))
			checkSent(t, l, n, now)
		}
		checkPending(t, fmt.Sprintf("the list after step %d", step), l, want)
		checkValidPending(t, l, true)
		if t.Failed() {
			return
		}
	}
}

// A guarded list of pending interests has spare capacity behind it, and behind each name and the requesters of each element.
type guardedPending struct {
	list       guardedList[impl.PendingInterest]
	requesters []guarded[impl.Requester]
}

func guardPending(l []impl.PendingInterest) guardedPending {
	g := guardedPending{}
	elements := []impl.PendingInterest{}
	for _, p := range slices.Concat(l, pendingOf("/q 1?7~50", "/a 0?9~9 @8", "/n000 1?7~50 @1", "/A @-5", "/c", "/b 3?8~50 3?8~0", "/n012 2?2~50")) {
		requesters := guardWith(p.Requesters, requestersOf("1?7~50 0?8~9 6?9~90 3?-5~0 2?0~50 4?1~1 5?1~50 1?1~1"))
		g.requesters = append(g.requesters, requesters)
		p.Requesters = requesters.slice
		elements = append(elements, p)
	}
	count := len(l)
	g.list = guardList(elements[:count], elements[count:], func(p *impl.PendingInterest) []*[]string { return []*[]string{&p.Name.Parts} }, pendingText)
	return g
}

func (g guardedPending) check(t *testing.T, what string) {
	t.Helper()
	g.list.check(t, what+", the list")
	for _, requesters := range g.requesters {
		requesters.check(t, what+", requesters in the list")
	}
}

func guardSeen(s []impl.SeenNonce) guardedList[impl.SeenNonce] {
	return guardList(s, seenOf("/q?1", "/a?7", "/?0", "/A?-1", "/n000?3", "/b?8"), func(x *impl.SeenNonce) []*[]string { return []*[]string{&x.Name.Parts} }, seenText)
}

// scribblePending changes all memory of a list.
func scribblePending(l []impl.PendingInterest) {
	whole := l[:cap(l)]
	for i := range whole {
		scribbleParts(whole[i].Name)
		scribbleRequesters(whole[i].Requesters)
		whole[i] = impl.PendingInterest{Name: nameOf("changed"), Requesters: requestersOf("9?9~-77"), LastSent: -77}
	}
}

func scribbleRequesters(l []impl.Requester) {
	whole := l[:cap(l)]
	for i := range whole {
		whole[i] = impl.Requester{Face: -77, Nonce: -77, Expiry: -77}
	}
}

// scribbleSeen changes all memory of a list.
func scribbleSeen(s []impl.SeenNonce) {
	whole := s[:cap(s)]
	for i := range whole {
		scribbleParts(whole[i].Name)
		whole[i] = impl.SeenNonce{Name: nameOf("changed"), Nonce: -77}
	}
}

// memoryPendings are lists, valid or not; memoryAsked are interests of which some are in some of them, and some are not valid.
func memoryPendings() [][]impl.PendingInterest {
	return [][]impl.PendingInterest{
		nil, {}, pendingOf("/a"), pendingOf("/a 2?7~49"), pendingOf("/a 1?7~50 @3"), pendingOf("/a 1?7~49 3?9~50", "/b 2?8~49"), pendingOf("/b 1?7~49", "/a 3?9~49 2?8~50 3?7~50"), pendingOf("/a 0?1~50", "/b", "/a 1?2~50", "/A 1?7~50", "/ 0?0~0"),
		pendingOf("/a 0?1~50 1?2~50 2?3~50 3?4~50 4?5~50 5?6~50 6?7~50"), pendingOf("/a 0?1~49 1?2~49 2?3~49 3?4~49"), pendingOf("/a/b/c/d/e/f 6?1~50", "/a/b/c/d/e/f/g 1?1~50", "/a/b 1?1~1"), numberedPending(11), numberedPending(12), numberedPending(13), numberedPending(30),
	}
}

func memoryAsked() []impl.Interest {
	all := []impl.Interest{{}, interestOf("/a", -1, 3, 4), interestOf("/A", 7, 3, 4), interestOf("/", 7, 3, 4), interestOf("/a/b/c/d/e/f", 7, 3, 4)}
	for _, s := range []string{"/a?7~4", "/b?99~1", "/c?1~20", "/n000?0~4", "/n011?99~4", "/n012?1~4"} {
		all = append(all, asked(s))
	}
	return all
}

func TestPendingInterestsAreLeftAsTheyAre(t *testing.T) {
	for _, l := range memoryPendings() {
		for _, w := range memoryAsked() {
			g, other, seen, parts := guardPending(l), guardPending(l), guardSeen(numberedSeen(24)), guardWith(w.Name.Parts, spareParts)
			guardedWant := w
			guardedWant.Name = impl.Name{Parts: parts.slice}
			calls := []struct {
				what string
				call func()
			}{
				{"ValidPending", func() { impl.ValidPending(g.list.slice) }},
				{"IsLoop", func() { impl.IsLoop(g.list.slice, seen.slice, guardedWant) }},
				{"HasPending", func() { impl.HasPending(g.list.slice, guardedWant.Name) }},
				{"AddRequester", func() { impl.AddRequester(g.list.slice, guardedWant, 2, 50) }},
				{"AddRequester, at the front", func() { impl.AddRequester(g.list.slice, guardedWant, 0, 50) }},
				{"AddRequester, at the end", func() { impl.AddRequester(g.list.slice, guardedWant, 6, 50) }},
				{"AddRequester, no face", func() { impl.AddRequester(g.list.slice, guardedWant, 7, 50) }},
				{"LastSentAt", func() { impl.LastSentAt(g.list.slice, guardedWant.Name) }},
				{"MarkSent", func() { impl.MarkSent(g.list.slice, guardedWant.Name, 50) }},
				{"Satisfy", func() { impl.Satisfy(g.list.slice, guardedWant.Name) }},
				{"ExpirePending", func() { impl.ExpirePending(g.list.slice, 50) }},
				{"ExpirePending, earlier", func() { impl.ExpirePending(g.list.slice, -50) }},
				{"ExpirePending, later", func() { impl.ExpirePending(g.list.slice, 100) }},
				{"AddSeenNonce", func() { impl.AddSeenNonce(seen.slice, guardedWant.Name, 7) }},
				{"AddSeenNonce to fewer", func() { impl.AddSeenNonce(seen.slice[:5], guardedWant.Name, 7) }},
				{"EqualPending", func() { impl.EqualPending(g.list.slice, other.list.slice) }},
			}
			for _, c := range calls {
				c.call()
				g.check(t, c.what)
				other.check(t, c.what+", the second list")
				seen.check(t, c.what)
				parts.check(t, c.what+", the name")
			}
		}
	}
}

// Each of these returns a list of pending interests; the requesters that Satisfy returns are taken for those of one more element.
var pendingResults = []struct {
	what string
	call func(l []impl.PendingInterest, w impl.Interest) []impl.PendingInterest
}{
	{"AddRequester", func(l []impl.PendingInterest, w impl.Interest) []impl.PendingInterest {
		result, _ := impl.AddRequester(l, w, 2, 50)
		return result
	}},
	{"AddRequester, at the front", func(l []impl.PendingInterest, w impl.Interest) []impl.PendingInterest {
		result, _ := impl.AddRequester(l, w, 0, 50)
		return result
	}},
	{"AddRequester, at the end", func(l []impl.PendingInterest, w impl.Interest) []impl.PendingInterest {
		result, _ := impl.AddRequester(l, w, 6, 50)
		return result
	}},
	{"AddRequester, no face", func(l []impl.PendingInterest, w impl.Interest) []impl.PendingInterest {
		result, _ := impl.AddRequester(l, w, -1, 50)
		return result
	}},
	{"MarkSent", func(l []impl.PendingInterest, w impl.Interest) []impl.PendingInterest {
		return impl.MarkSent(l, w.Name, 50)
	}},
	{"Satisfy", func(l []impl.PendingInterest, w impl.Interest) []impl.PendingInterest {
		result, requesters := impl.Satisfy(l, w.Name)
		// The list is not appended to in place, so that its own memory is seen, too.
		return slices.Concat(result, []impl.PendingInterest{{Name: nameOf("satisfied"), Requesters: requesters}})
	}},
	{"Satisfy, the list", func(l []impl.PendingInterest, w impl.Interest) []impl.PendingInterest {
		result, _ := impl.Satisfy(l, w.Name)
		return result
	}},
	{"ExpirePending", func(l []impl.PendingInterest, w impl.Interest) []impl.PendingInterest {
		return impl.ExpirePending(l, 50)
	}},
	{"ExpirePending, earlier", func(l []impl.PendingInterest, w impl.Interest) []impl.PendingInterest {
		return impl.ExpirePending(l, -50)
	}},
}

func TestPendingInterestsAreNewMemory(t *testing.T) {
	for _, l := range memoryPendings() {
		for _, w := range memoryAsked() {
			for _, f := range pendingResults {
				g, parts := guardPending(l), guardWith(w.Name.Parts, spareParts)
				guardedWant := w
				guardedWant.Name = impl.Name{Parts: parts.slice}
				first, second := f.call(g.list.slice, guardedWant), f.call(g.list.slice, guardedWant)
				want := pendingText(second)
				scribblePending(first)
				g.check(t, f.what+", its result changed")
				parts.check(t, f.what+", its result changed, the name")
				scribblePending(g.list.slice)
				scribbleParts(guardedWant.Name)
				if pendingText(second) != want {
					t.Errorf("%s of %s, %s shares memory with its arguments or with another result", f.what, pendingText(l), interestText(w))
				}
			}
		}
	}
}

// The names and the requesters of a result are apart from each other, also where those of the argument are parts of one array.
func TestPendingInterestsAreApart(t *testing.T) {
	parts, requesters := []string{"a", "b", "c", "d", "e", "f"}, requestersOf("0?1~50 1?2~50 3?3~49 4?4~50 5?5~49 6?6~50")
	l := []impl.PendingInterest{}
	for i := range 4 {
		l = append(l, impl.PendingInterest{Name: nameOf(parts[:i+1]...), Requesters: requesters[:i+2], LastSent: i})
	}
	for _, n := range []impl.Name{nameOf(parts[:1]...), nameOf(parts[:4]...), nameOf(parts[1:]...), nameOf()} {
		w := impl.Interest{Name: n, Nonce: 7, Lifetime: 4}
		for _, f := range pendingResults {
			count := len(f.call(l, w))
			for at := range count {
				result := f.call(l, w)
				others := pendingText(result[:at]) + pendingText(result[at+1:])
				scribbleParts(result[at].Name)
				scribbleRequesters(result[at].Requesters)
				if pendingText(result[:at])+pendingText(result[at+1:]) != others {
					t.Errorf("%s: the element at %d shares memory with others", f.what, at)
				}
			}
		}
	}
	if !slices.Equal(parts, []string{"a", "b", "c", "d", "e", "f"}) || !slices.Equal(requesters, requestersOf("0?1~50 1?2~50 3?3~49 4?4~50 5?5~49 6?6~50")) {
		t.Errorf("the arrays are %q and %s", parts, requestersText(requesters))
	}
}

func TestSeenNoncesAreNewMemory(t *testing.T) {
	array := []string{"a", "b", "c", "d", "e", "f"}
	apart := []impl.SeenNonce{{Name: nameOf(array[:1]...), Nonce: 1}, {Name: nameOf(array[:3]...), Nonce: 2}, {Name: nameOf(array[1:]...), Nonce: 3}}
	for _, s := range [][]impl.SeenNonce{nil, {}, seenOf("/a?7"), seenOf("/A?-1", "/?0", "/a/b/c/d/e/f/g?5"), apart, numberedSeen(23), numberedSeen(24), numberedSeen(25), numberedSeen(40)} {
		for _, m := range slices.Concat(memoryNames, []impl.Name{nameOf(array[:2]...)}) {
			g, parts := guardSeen(s), guardWith(m.Parts, spareParts)
			n := impl.Name{Parts: parts.slice}
			first, second := impl.AddSeenNonce(g.slice, n, 7), impl.AddSeenNonce(g.slice, n, 7)
			want := seenText(second)
			scribbleSeen(first)
			g.check(t, "AddSeenNonce, its result changed")
			parts.check(t, "AddSeenNonce, its result changed, the name")
			scribbleSeen(g.slice)
			scribbleParts(n)
			if seenText(second) != want {
				t.Errorf("AddSeenNonce(%s, %q) shares memory with its arguments or with another result", seenText(s), m.Parts)
			}
			for at := range impl.AddSeenNonce(s, m, 7) {
				result := impl.AddSeenNonce(s, m, 7)
				others := seenText(result[:at]) + seenText(result[at+1:])
				scribbleParts(result[at].Name)
				if seenText(result[:at])+seenText(result[at+1:]) != others {
					t.Errorf("AddSeenNonce(%s, %q): the name at %d shares memory with others", seenText(s), m.Parts, at)
				}
			}
		}
	}
}

// What lies behind the last element of a list, or behind the requesters or a name of one, counts for nothing.
func TestSpareMemoryOfPendingInterestsIsNotRead(t *testing.T) {
	l := pendingOf("/a 1?7~50 2?8~50 @3", "/b 1?7~50 @4", "/A")[:1]
	l[0].Name.Parts = []string{"a", "b", "C"}[:1]
	l[0].Requesters = l[0].Requesters[:1]
	s := seenOf("/c?7", "/c?8", "/A?7")[:1]
	same := pendingOf("/a 1?7~50 @3")
	checkValidPending(t, l, true)
	checkEqualPendings(t, l, same, true)
	checkEqualPendings(t, l, pendingOf("/a 1?7~50 2?8~50 @3"), false)
	checkEqualPendings(t, l, pendingOf("/a 1?7~50 @3", "/b 1?7~50 @4"), false)
	checkLoop(t, l, s, asked("/a?7~4"), true)
	checkLoop(t, l, s, asked("/c?7~4"), true)
	for _, text := range []string{"/a?8~4", "/b?7~4", "/c?8~4", "/a/b?7~4", "/A?7~4"} {
		checkLoop(t, l, s, asked(text), false)
	}
	for _, text := range []string{"/b", "/A", "/a/b"} {
		checkSent(t, l, named(text), 9)
		checkSatisfy(t, l, named(text), same, nil)
	}
	checkSatisfy(t, l, nameOf("a"), nil, requestersOf("1?7~50"))
	checkAddRequester(t, l, asked("/b?9~4"), 3, 50, pendingOf("/a 1?7~50 @3", "/b 3?9~54"), true)
	checkAddRequester(t, l, asked("/a?9~4"), 3, 50, pendingOf("/a 1?7~50 3?9~54 @3"), true)
	checkExpire(t, l, 50, same)
	checkExpire(t, l, 51, nil)
	checkSeen(t, s, nameOf("c"), 9, seenOf("/c?7", "/c?9"))
	checkSeen(t, numberedSeen(30)[:23], nameOf("c"), 9, append(numberedSeen(23), seenOf("/c?9")...))
	checkAddRequester(t, numberedPending(20)[:11], asked("/c?9~4"), 3, 50, append(numberedPending(11), pendingOf("/c 3?9~54")...), true)
	checkAddRequester(t, numberedPending(20)[:11], asked("/n011?9~4"), 3, 50, append(numberedPending(11), pendingOf("/n011 3?9~54")...), true)
	checkAddRequester(t, numberedPending(20)[:12], asked("/n012?9~4"), 3, 50, numberedPending(12), false)
}
