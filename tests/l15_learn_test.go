package tests

import (
	"fmt"
	"math"
	"slices"
	"strings"
	"testing"

	"loop.example/g00507/impl"
)

// measurementOf makes a measurement, valid or not, of a text like "/a>2:3": the prefix /a has failed 3 times through the face 2.
func measurementOf(s string) impl.Measurement {
	prefix, s, _ := strings.Cut(s, ">")
	face, failures, _ := strings.Cut(s, ":")
	return impl.Measurement{Prefix: named(prefix), Face: integer(face), Failures: integer(failures)}
}

// measurementsOf makes measurements of a text like "/a>2:3 /b>1:5"; "" are none.
func measurementsOf(s string) []impl.Measurement {
	l := []impl.Measurement{}
	for _, word := range strings.Fields(s) {
		l = append(l, measurementOf(word))
	}
	return l
}

// numberedMeasurements have prefixes of their own, /n000, /n001 and so on, and are valid if there are not too many.
func numberedMeasurements(length int) []impl.Measurement {
	l := []impl.Measurement{}
	for i := range length {
		l = append(l, impl.Measurement{Prefix: numberedName(i), Face: 1 + i%6, Failures: 1 + i%50})
	}
	return l
}

// sharedMeasurements have six faces for each prefix, so that 24 of them have four prefixes.
func sharedMeasurements(length int) []impl.Measurement {
	l := []impl.Measurement{}
	for i := range length {
		l = append(l, impl.Measurement{Prefix: numberedName(i / 6), Face: 1 + i%6, Failures: 1 + i%4})
	}
	return l
}

// measurementsText is the same for equal lists only.
func measurementsText(l []impl.Measurement) string {
	text := ""
	for _, m := range l {
		text += fmt.Sprintf("%q>%d:%d ", m.Prefix.Parts, m.Face, m.Failures)
	}
	return text
}

var (
	emptyMeasurements = [][]impl.Measurement{nil, {}, measurementsOf("/a>1:1 />2:2")[:0]}

	failures    = []int{1, 2, 3, 4, 7, 17, 25, 48, 49, 50}
	notFailures = []int{0, -1, -2, -3, -50, -51, -1 << 32, math.MinInt, math.MinInt + 1, 51, 52, 53, 99, 100, 101, 102, 103, 255, 256, 256 + 50, 1 << 32, 1<<32 + 1, impl.MaxInt, math.MaxInt - 1, math.MaxInt}

	// Measurements, valid or not, of which up to three are taken together.
	shortMeasurementTexts = []string{"/>1:5", "/>4:1", "/a>1:1", "/a>1:4", "/a>2:50", "/a>2:3", "/a/b>1:2", "/A>1:1", "/a>0:2", "/a>1:0"}
)

func shortMeasurements() [][]impl.Measurement {
	all := [][]impl.Measurement{}
	for _, texts := range sequences(shortMeasurementTexts, 3) {
		all = append(all, measurementsOf(strings.Join(texts, " ")))
	}
	return all
}

// The models follow the document's words without the program.
func model15Valid(l []impl.Measurement) bool {
	for i, m := range l {
		if !wantValidName(m.Prefix) || m.Face < 1 || m.Face > 6 || m.Failures < 1 || m.Failures > 50 || model15Index(l[:i], m.Prefix, m.Face) >= 0 {
			return false
		}
	}
	return len(l) <= 24
}

func model15Index(l []impl.Measurement, n impl.Name, face int) int {
	for i, m := range l {
		if slices.Equal(m.Prefix.Parts, n.Parts) && m.Face == face {
			return i
		}
	}
	return -1
}

func model15Failures(l []impl.Measurement, n impl.Name, face int) int {
	if at := model15Index(l, n, face); at >= 0 {
		return l[at].Failures
	}
	return 0
}

func model15Failure(l []impl.Measurement, n impl.Name, face int) []impl.Measurement {
	changed := slices.Clone(l)
	if !wantValidName(n) || face < 1 || face > 6 {
		return changed
	}
	if at := model15Index(l, n, face); at >= 0 {
		changed[at].Failures = min(50, changed[at].Failures+1)
	} else if len(l) < 24 {
		changed = append(changed, impl.Measurement{Prefix: n, Face: face, Failures: 1})
	}
	return changed
}

func model15Success(l []impl.Measurement, n impl.Name, face int) []impl.Measurement {
	at := model15Index(l, n, face)
	if at < 0 {
		return l
	}
	if l[at].Failures < 2 {
		return slices.Concat(l[:at], l[at+1:])
	}
	changed := slices.Clone(l)
	changed[at].Failures >>= 1
	return changed
}

// model15Rank takes the first of the best faces that are left, again and again.
func model15Rank(l []impl.Measurement, n impl.Name, faces []int) []int {
	ranked, left := []int{}, slices.Clone(faces)
	for len(left) > 0 {
		best := 0
		for i, face := range left {
			if model15Failures(l, n, face) < model15Failures(l, n, left[best]) {
				best = i
			}
		}
		ranked = append(ranked, left[best])
		left = slices.Delete(left, best, best+1)
	}
	return ranked
}

func model15Worst(l []impl.Measurement) int {
	worst := 0
	for _, m := range l {
		worst = max(worst, m.Failures)
	}
	return worst
}

func checkValidMeasurements(t *testing.T, l []impl.Measurement, want bool) {
	t.Helper()
	if got := impl.ValidMeasurements(l); got != want {
		t.Errorf("ValidMeasurements(%s) = %v", measurementsText(l), got)
	}
}

func checkFailuresOf(t *testing.T, l []impl.Measurement, n impl.Name, face int, want int) {
	t.Helper()
	if got := impl.FailuresOf(l, n, face); got != want {
		t.Errorf("FailuresOf(%s, %q, %d) = %d, want %d", measurementsText(l), n.Parts, face, got, want)
	}
}

func checkFailure(t *testing.T, l []impl.Measurement, n impl.Name, face int, want []impl.Measurement) {
	t.Helper()
	if got := impl.RecordFailure(l, n, face); measurementsText(got) != measurementsText(want) {
		t.Errorf("RecordFailure(%s, %q, %d) = %s, want %s", measurementsText(l), n.Parts, face, measurementsText(got), measurementsText(want))
	}
}

func checkSuccess(t *testing.T, l []impl.Measurement, n impl.Name, face int, want []impl.Measurement) {
	t.Helper()
	if got := impl.RecordSuccess(l, n, face); measurementsText(got) != measurementsText(want) {
		t.Errorf("RecordSuccess(%s, %q, %d) = %s, want %s", measurementsText(l), n.Parts, face, measurementsText(got), measurementsText(want))
	}
}

func checkRank(t *testing.T, l []impl.Measurement, n impl.Name, faces []int, want ...int) {
	t.Helper()
	if got := impl.RankFaces(l, n, faces); !slices.Equal(got, want) {
		t.Errorf("RankFaces(%s, %q, %v) = %v, want %v", measurementsText(l), n.Parts, faces, got, want)
	}
}

func checkWorst(t *testing.T, l []impl.Measurement, want int) {
	t.Helper()
	if got := impl.WorstFailures(l); got != want {
		t.Errorf("WorstFailures(%s) = %d, want %d", measurementsText(l), got, want)
	}
}

// checkMeasured takes what is wanted of all functions of one prefix and face from the models.
func checkMeasured(t *testing.T, l []impl.Measurement, n impl.Name, face int) {
	t.Helper()
	checkFailuresOf(t, l, n, face, model15Failures(l, n, face))
	checkFailure(t, l, n, face, model15Failure(l, n, face))
	checkSuccess(t, l, n, face, model15Success(l, n, face))
	some := []int{6, face, 1, 0, 4, 2, face, 3, 1}
	checkRank(t, l, n, some, model15Rank(l, n, some)...)
}

func TestTheLimitsOfMeasurementsAreThoseOfTheDocument(t *testing.T) {
	if impl.MaxMeasurements != 24 || impl.MaxFailures != 50 {
		t.Errorf("MaxMeasurements = %d, MaxFailures = %d", impl.MaxMeasurements, impl.MaxFailures)
	}
}

func TestValidMeasurements(t *testing.T) {
	for _, l := range emptyMeasurements {
		checkValidMeasurements(t, l, true)
	}
	for length := range 50 {
		checkValidMeasurements(t, numberedMeasurements(length), length <= 24)
		checkValidMeasurements(t, sharedMeasurements(length), length <= 24)
	}
	for _, length := range []int{255, 256, 257, 256 + 24, 999} {
		checkValidMeasurements(t, numberedMeasurements(length), false)
		checkValidMeasurements(t, sharedMeasurements(length), false)
	}
	for _, l := range shortMeasurements() {
		checkValidMeasurements(t, l, model15Valid(l))
	}
	checkValidMeasurements(t, measurementsOf("/b>6:50 />1:1 /a>3:7 />2:1 /b>1:50"), true)
	checkValidMeasurements(t, make([]impl.Measurement, 1), false)
}

// One measurement of a list is replaced by another one, at each position.
func checkOneMeasurement(t *testing.T, m impl.Measurement, want bool) {
	t.Helper()
	for _, length := range []int{1, 2, 5, 24} {
		for at := range length {
			l := numberedMeasurements(length)
			l[at] = m
			checkValidMeasurements(t, l, want)
		}
	}
}

func TestValidMeasurementsOfEachField(t *testing.T) {
	for _, n := range slices.Concat(emptyNames, notNames, ascendingNames, wantNames) {
		checkOneMeasurement(t, impl.Measurement{Prefix: n, Face: 2, Failures: 3}, wantValidName(n))
	}
	for _, face := range routeFaces {
		checkOneMeasurement(t, impl.Measurement{Prefix: nameOf("a"), Face: face, Failures: 3}, true)
	}
	for _, face := range notRouteFaces {
		checkOneMeasurement(t, impl.Measurement{Prefix: nameOf("a"), Face: face, Failures: 3}, false)
	}
	for _, n := range failures {
		checkOneMeasurement(t, impl.Measurement{Prefix: nameOf("a"), Face: 2, Failures: n}, true)
	}
	for _, n := range notFailures {
		checkOneMeasurement(t, impl.Measurement{Prefix: nameOf("a"), Face: 2, Failures: n}, false)
	}
}

// A prefix may occur with each face, and a face with each prefix; but not the same prefix with the same face, wherever and with whatever failures.
func TestValidMeasurementsOfEachPrefixAndFace(t *testing.T) {
	for length := 2; length <= 24; length++ {
		for i := range length {
			for j := range length {
				l := numberedMeasurements(length)
				l[i].Prefix, l[i].Face = l[j].Prefix, l[j].Face
				checkValidMeasurements(t, l, i == j)
				l[i].Face = 1 + l[j].Face%6
				checkValidMeasurements(t, l, true)
			}
		}
	}
	checkValidMeasurements(t, measurementsOf("/a>1:3 /a/a>1:3 /aa>1:3 />1:3 /a>2:3 /b/a>1:3"), true)
	checkValidMeasurements(t, measurementsOf("/a>1:3 /b>1:3 /a>2:3 /a>1:4"), false)
	checkValidMeasurements(t, measurementsOf("/>1:3 /b>1:3 />1:3"), false)
	checkValidMeasurements(t, measurementsOf("/a>1:3 /a>2:3 /a>3:3 /a>4:3 /a>5:3 /a>6:3 />1:3 />2:3 />3:3 />4:3 />5:3 />6:3"), true)
	// The texts of a prefix and a face are not what is compared.
	checkValidMeasurements(t, measurementsOf("/a1>1:3 /a>1:3 /a/1>1:3 /a11>1:3"), true)
}

func TestFailuresOf(t *testing.T) {
	cases := []struct {
		list, prefix string
		face, want   int
	}{
		{"/a>2:3", "/a", 2, 3}, {"/a>2:3", "/a", 1, 0}, {"/a>2:3", "/a", 3, 0}, {"/a>2:3", "/b", 2, 0}, {"/a>2:1 /a>1:50", "/a", 2, 1}, {"/a>2:1 /a>1:50", "/a", 1, 50}, {"/b>2:7 /a>2:9", "/a", 2, 9}, {"/b>2:7 /a>2:9", "/b", 2, 7},
		// The prefix of all names is a prefix like all others: neither do names under it have its failures, nor does it have theirs.
		{"/>2:3", "/", 2, 3}, {"/>2:3", "/", 3, 0}, {"/>2:3", "/a", 2, 0}, {"/a>2:3", "/", 2, 0}, {"/a>2:3 />2:5", "/", 2, 5}, {"/>2:3 /a>2:5", "/a", 2, 5},
		{"/a>2:3", "/a/b", 2, 0}, {"/a/b>2:3", "/a", 2, 0}, {"/a>2:3 /a/b>2:5", "/a/b", 2, 5}, {"/a>2:3", "/aa", 2, 0}, {"/aa>2:3", "/a", 2, 0},
		// Only the first element counts.
		{"/a>2:3 /a>2:5", "/a", 2, 3}, {"/a>2:5 /a>2:3", "/a", 2, 5}, {"/a>1:9 /a>2:5 /a>2:3 /a>2:7", "/a", 2, 5}, {"/a>2:0 /a>2:5", "/a", 2, 0}, {"/a>2:-4 /a>2:5", "/a", 2, -4},
		// Elements that are not valid.
		{"/A>0:3", "/A", 0, 3}, {"/a>7:51", "/a", 7, 51}, {"/a/b/c/d/e/f/g>-1:-7", "/a/b/c/d/e/f/g", -1, -7}, {"/a/>1:3", "/a/", 1, 3}, {"/a/>1:3", "/a", 1, 0},
	}
	for _, c := range cases {
		checkFailuresOf(t, measurementsOf(c.list), named(c.prefix), c.face, c.want)
	}
	for _, n := range slices.Concat(emptyNames, notNames, wantNames) {
		for _, face := range slices.Concat(faces, notFaces) {
			for _, none := range emptyMeasurements {
				checkFailuresOf(t, none, n, face, 0)
			}
			for _, count := range slices.Concat(failures, notFailures) {
				l := append(measurementsOf("/x>1:9 /x>2:9"), impl.Measurement{Prefix: n, Face: face, Failures: count})
				checkFailuresOf(t, l, n, face, count)
				checkFailuresOf(t, l, n, face^1, 0)
			}
		}
	}
	for _, n := range emptyNames {
		for _, m := range emptyNames {
			checkFailuresOf(t, []impl.Measurement{{Prefix: n, Face: 2, Failures: 3}}, m, 2, 3)
		}
	}
}

func TestRecordFailure(t *testing.T) {
	cases := []struct {
		before, prefix string
		face           int
		after          string
	}{
		// A new element, always at the end.
		{"", "/a", 2, "/a>2:1"}, {"", "/", 1, "/>1:1"}, {"", "/a/b/c/d/e/f", 6, "/a/b/c/d/e/f>6:1"}, {"/b>2:3", "/a", 2, "/b>2:3 /a>2:1"}, {"/a>2:3", "/", 2, "/a>2:3 />2:1"}, {"/>2:3", "/a", 2, "/>2:3 /a>2:1"}, {"/a>2:9 /b>1:1", "/aa", 2, "/a>2:9 /b>1:1 /aa>2:1"}, {"/a>2:9", "/a/b", 2, "/a>2:9 /a/b>2:1"}, {"/a/b>2:9", "/a", 2, "/a/b>2:9 /a>2:1"},
		// The same prefix with another face.
		{"/a>2:3", "/a", 1, "/a>2:3 /a>1:1"}, {"/a>1:3 /b>2:7", "/a", 2, "/a>1:3 /b>2:7 /a>2:1"}, {"/>1:3", "/", 6, "/>1:3 />6:1"},
		// A prefix and a face that are there, wherever they are.
		{"/a>2:1", "/a", 2, "/a>2:2"}, {"/a>2:2", "/a", 2, "/a>2:3"}, {"/a>2:48", "/a", 2, "/a>2:49"}, {"/a>2:3 /b>2:5 /a>1:7", "/a", 2, "/a>2:4 /b>2:5 /a>1:7"}, {"/a>2:3 /b>2:5 /a>1:7", "/b", 2, "/a>2:3 /b>2:6 /a>1:7"}, {"/a>2:3 /b>2:5 /a>1:7", "/a", 1, "/a>2:3 /b>2:5 /a>1:8"}, {"/a>2:3 />2:5", "/", 2, "/a>2:3 />2:6"},
		// At most MaxFailures.
		{"/a>2:49", "/a", 2, "/a>2:50"}, {"/a>2:50", "/a", 2, "/a>2:50"}, {"/a>2:51", "/a", 2, "/a>2:50"}, {"/a>2:1000", "/a", 2, "/a>2:50"}, {"/b>2:50 /a>2:50 /a>3:50", "/a", 2, "/b>2:50 /a>2:50 /a>3:50"}, {"/a>2:9223372036854775806", "/a", 2, "/a>2:50"},
		// Beyond its range, the sum wraps around.
		{"/a>2:9223372036854775807", "/a", 2, "/a>2:-9223372036854775808"}, {"/a>2:-9223372036854775808", "/a", 2, "/a>2:-9223372036854775807"}, {"/a>2:-1", "/a", 2, "/a>2:0"}, {"/a>2:0", "/a", 2, "/a>2:1"},
		// Only the first element that occurs twice fails.
		{"/a>2:3 /a>2:3", "/a", 2, "/a>2:4 /a>2:3"}, {"/a>2:3 /b>1:1 /a>2:7 /a>2:50", "/a", 2, "/a>2:4 /b>1:1 /a>2:7 /a>2:50"}, {"/a>2:50 /a>2:7", "/a", 2, "/a>2:50 /a>2:7"}, {"/>2:0 />2:7", "/", 2, "/>2:1 />2:7"},
		// Other elements stay as they are, valid or not.
		{"/A>0:-5 /a>2:3 /a/>9:99 /a>0:0 /a>0:0", "/a", 2, "/A>0:-5 /a>2:4 /a/>9:99 /a>0:0 /a>0:0"}, {"/b>1:3 /b>1:3 /b>1:0 /A>1:1", "/a", 1, "/b>1:3 /b>1:3 /b>1:0 /A>1:1 /a>1:1"},
	}
	for _, c := range cases {
		checkFailure(t, measurementsOf(c.before), named(c.prefix), c.face, measurementsOf(c.after))
	}
	for _, none := range emptyMeasurements {
		for _, n := range slices.Concat(emptyNames, wantNames) {
			for _, face := range routeFaces {
				checkFailure(t, none, n, face, []impl.Measurement{{Prefix: n, Face: face, Failures: 1}})
			}
		}
	}
}

// Neither a new element nor one that is there fails if the name is not valid or the face is out of range.
func TestRecordFailureOfWhatCannotFail(t *testing.T) {
	unchanged := func(l []impl.Measurement, n impl.Name, face int) {
		t.Helper()
		checkFailure(t, l, n, face, l)
		for _, length := range []int{0, 1, 23, 24, 25} {
			there := append(numberedMeasurements(length), impl.Measurement{Prefix: n, Face: face, Failures: 3})
			checkFailure(t, there, n, face, there)
			checkFailure(t, there[:length], n, face, there[:length])
		}
	}
	l := measurementsOf("/a>1:1 /a>2:2 /a>3:3 /a>4:4 /a>5:5 /a>6:6 />1:7 /a/b>1:8")
	for _, face := range notRouteFaces {
		for _, n := range slices.Concat(emptyNames, wantNames, notNames) {
			unchanged(l, n, face)
		}
	}
	for _, n := range slices.Concat(notNames, []impl.Name{nameOf("a/b"), nameOf("a", "", "b"), nameOf("", "a"), nameOf("a", ""), nameOf("A"), nameOf("a\x00")}) {
		for _, face := range routeFaces {
			unchanged(l, n, face)
		}
	}
	for at, m := range l {
		want := slices.Clone(l)
		want[at].Failures++
		checkFailure(t, l, m.Prefix, m.Face, want)
	}
}

// A new element takes the last free place, and none behind it; one that is there needs none, however many there are.
func TestTheLastFreeMeasurement(t *testing.T) {
	for _, measurements := range []func(int) []impl.Measurement{numberedMeasurements, sharedMeasurements} {
		for _, length := range []int{0, 1, 5, 22, 23, 24, 25, 26, 48, 255, 256, 256 + 23, 256 + 24} {
			l := measurements(length)
			for _, added := range measurementsOf("/a>2:1 />6:1 /n000>2:1 /n000/a>1:1") {
				want := measurements(length)
				if at := model15Index(l, added.Prefix, added.Face); at >= 0 {
					want[at].Failures++
				} else if length < 24 {
					want = append(want, added)
				}
				checkFailure(t, l, added.Prefix, added.Face, want)
			}
			for _, at := range []int{0, 1, 5, 22, 23, 24, 25, 49, length - 1} {
				if at < 0 || at >= length {
					continue
				}
				want := measurements(length)
				want[at].Failures = min(50, want[at].Failures+1)
				checkFailure(t, l, l[at].Prefix, l[at].Face, want)
			}
		}
	}
	// As soon as a face answers in a full list, there is room for one element again.
	for at, m := range numberedMeasurements(24) {
		l := numberedMeasurements(24)
		l[at].Failures = 1
		l = impl.RecordSuccess(l, m.Prefix, m.Face)
		for i := range 3 {
			l = impl.RecordFailure(l, nameOf("new"), 1+i)
		}
		want := append(slices.Delete(numberedMeasurements(24), at, at+1), measurementOf("/new>1:1"))
		if measurementsText(l) != measurementsText(want) || !impl.ValidMeasurements(l) {
			t.Errorf("after a success at %d and three failures, the full list is %s, want %s", at, measurementsText(l), measurementsText(want))
		}
	}
}

// A face that fails again and again has as many failures, up to MaxFailures.
func TestFailuresAreCountedUpToMaxFailures(t *testing.T) {
	l := measurementsOf("/b>1:7 /a>2:7")
	for i := 1; i <= 120; i++ {
		l = impl.RecordFailure(l, nameOf("a"), 1)
		want := append(measurementsOf("/b>1:7 /a>2:7"), impl.Measurement{Prefix: nameOf("a"), Face: 1, Failures: min(i, 50)})
		if measurementsText(l) != measurementsText(want) || !impl.ValidMeasurements(l) {
			t.Fatalf("after %d failures, the list is %s", i, measurementsText(l))
		}
		checkFailuresOf(t, l, nameOf("a"), 1, min(i, 50))
	}
	for _, n := range slices.Concat(failures, notFailures) {
		before, after := impl.Measurement{Face: 1, Failures: n}, impl.Measurement{Face: 1, Failures: n + 1}
		if n+1 > 50 {
			after.Failures = 50
		}
		checkFailure(t, []impl.Measurement{before}, impl.Name{}, 1, []impl.Measurement{after})
	}
}

func TestRecordSuccess(t *testing.T) {
	cases := []struct {
		before, prefix string
		face           int
		after          string
	}{
		// Removed, halved to 1, and halved and rounded down to 1.
		{"/a>2:1", "/a", 2, ""}, {"/a>2:2", "/a", 2, "/a>2:1"}, {"/a>2:3", "/a", 2, "/a>2:1"}, {"/a>2:4", "/a", 2, "/a>2:2"}, {"/a>2:5", "/a", 2, "/a>2:2"}, {"/a>2:49", "/a", 2, "/a>2:24"}, {"/a>2:50", "/a", 2, "/a>2:25"}, {"/>2:1", "/", 2, ""}, {"/>2:7", "/", 2, "/>2:3"},
		// Wherever it is, without a change of the order or of other elements.
		{"/a>1:1 /b>1:9 /c>1:9", "/a", 1, "/b>1:9 /c>1:9"}, {"/b>1:9 /a>1:1 /c>1:9", "/a", 1, "/b>1:9 /c>1:9"}, {"/b>1:9 /c>1:9 /a>1:1", "/a", 1, "/b>1:9 /c>1:9"}, {"/b>1:9 /a>1:9 /c>1:9", "/a", 1, "/b>1:9 /a>1:4 /c>1:9"}, {"/a>1:1 /a>2:1 /a>3:1", "/a", 2, "/a>1:1 /a>3:1"}, {"/>1:1 /a>1:1", "/", 1, "/a>1:1"}, {"/>1:1 /a>1:1", "/a", 1, "/>1:1"},
		// One that is not there.
		{"", "/a", 2, ""}, {"/a>2:1", "/b", 2, "/a>2:1"}, {"/a>2:1", "/", 2, "/a>2:1"}, {"/>2:1", "/a", 2, "/>2:1"}, {"/a>2:1", "/a/b", 2, "/a>2:1"}, {"/a/b>2:1", "/a", 2, "/a/b>2:1"}, {"/aa>2:1", "/a", 2, "/aa>2:1"},
		// The same prefix with another face.
		{"/a>2:1", "/a", 1, "/a>2:1"}, {"/a>2:1", "/a", 3, "/a>2:1"}, {"/a>2:8 /a>1:8", "/a", 1, "/a>2:8 /a>1:4"}, {"/a>2:8", "/a", 0, "/a>2:8"}, {"/a>2:8", "/a", 7, "/a>2:8"},
		// Only the first element that occurs twice answers; if it is removed, the second one is the first.
		{"/a>2:8 /a>2:8", "/a", 2, "/a>2:4 /a>2:8"}, {"/a>2:1 /a>2:8", "/a", 2, "/a>2:8"}, {"/a>2:1 /a>2:1 /a>2:1", "/a", 2, "/a>2:1 /a>2:1"}, {"/a>2:8 /b>1:1 /a>2:1", "/a", 2, "/a>2:4 /b>1:1 /a>2:1"}, {"/a>2:1 /b>1:1 /b>1:1 /a>2:1", "/a", 2, "/b>1:1 /b>1:1 /a>2:1"}, {"/b>1:1 /b>1:1 /a>2:1", "/a", 2, "/b>1:1 /b>1:1"}, {"/a>2:0 /a>2:5", "/a", 2, "/a>2:5"},
		// Failures that are not valid: less than 1 when halved, or still too many; those of other elements stay.
		{"/a>2:0", "/a", 2, ""}, {"/a>2:-1", "/a", 2, ""}, {"/a>2:-2", "/a", 2, ""}, {"/a>2:-9223372036854775808", "/a", 2, ""}, {"/a>2:51", "/a", 2, "/a>2:25"}, {"/a>2:1001", "/a", 2, "/a>2:500"}, {"/a>2:9223372036854775807", "/a", 2, "/a>2:4611686018427387903"}, {"/b>1:0 /a>2:1 /b>2:-7 /b>3:99", "/a", 2, "/b>1:0 /b>2:-7 /b>3:99"}, {"/b>1:0 /a>2:2", "/c", 2, "/b>1:0 /a>2:2"},
		// RecordSuccess asks for no valid name or face.
		{"/A>1:1 /a>1:1", "/A", 1, "/a>1:1"}, {"/A>1:9", "/A", 1, "/A>1:4"}, {"/a>0:1", "/a", 0, ""}, {"/a>7:6 /a>1:1", "/a", 7, "/a>7:3 /a>1:1"}, {"/a/b/c/d/e/f/g>-1:3", "/a/b/c/d/e/f/g", -1, "/a/b/c/d/e/f/g>-1:1"}, {"/a/>1:3", "/a", 1, "/a/>1:3"},
	}
	for _, c := range cases {
		checkSuccess(t, measurementsOf(c.before), named(c.prefix), c.face, measurementsOf(c.after))
	}
	for _, n := range slices.Concat(emptyNames, notNames, wantNames) {
		for _, face := range slices.Concat(faces, notFaces) {
			for _, none := range emptyMeasurements {
				checkSuccess(t, none, n, face, nil)
			}
			for _, count := range slices.Concat(failures, notFailures) {
				l := append(measurementsOf("/x>1:9 /x>2:1"), impl.Measurement{Prefix: n, Face: face, Failures: count})
				want := measurementsOf("/x>1:9 /x>2:1")
				if count > 1 {
					want = append(want, impl.Measurement{Prefix: n, Face: face, Failures: (count - count%2) / 2})
				}
				checkSuccess(t, l, n, face, want)
				checkSuccess(t, l, n, face^1, l)
			}
		}
	}
}

// A success counts at each position, also behind MaxMeasurements.
func TestMeasurementsAtEachPosition(t *testing.T) {
	for _, length := range []int{1, 2, 6, 7, 23, 24, 25, 26, 60, 300} {
		for _, l := range [][]impl.Measurement{numberedMeasurements(length), sharedMeasurements(length)} {
			for at, m := range l {
				checkFailuresOf(t, l, m.Prefix, m.Face, m.Failures)
				want := slices.Clone(l)
				if want[at].Failures /= 2; want[at].Failures == 0 {
					want = slices.Delete(want, at, at+1)
				}
				checkSuccess(t, l, m.Prefix, m.Face, want)
				checkRank(t, l, m.Prefix, []int{m.Face, 0, 7}, 0, 7, m.Face)
			}
			checkMeasured(t, l, numberedName(length), 1)
			checkMeasured(t, l, numberedName(0), 7)
		}
	}
}

// A face that fails i times and then answers is forgotten after as many answers as i has binary digits.
func TestFacesThatAnswerAgain(t *testing.T) {
	halves := [][]int{{}, {}, {1}, {1}, {2, 1}, {2, 1}, {3, 1}, {3, 1}, {4, 2, 1}, {4, 2, 1}, {5, 2, 1}}
	for i := 1; i <= 10; i++ {
		checkAnswers(t, i, halves[i])
	}
	checkAnswers(t, 24, []int{12, 6, 3, 1})
	checkAnswers(t, 49, []int{24, 12, 6, 3, 1})
	for _, i := range []int{50, 51, 70} {
		checkAnswers(t, i, []int{25, 12, 6, 3, 1})
	}
}

// checkAnswers lets the face 3 fail, then answer, then fail again; the other faces and prefixes keep what they have.
func checkAnswers(t *testing.T, count int, counts []int) {
	t.Helper()
	n, others := nameOf("a", "b"), "/a>3:2 /a/b>1:1 />3:5 /a/b>4:50"
	l := measurementsOf(others)
	for range count {
		l = impl.RecordFailure(l, n, 3)
	}
	checkFailuresOf(t, l, n, 3, min(count, 50))
	for _, want := range counts {
		l = impl.RecordSuccess(l, n, 3)
		if text := measurementsText(append(measurementsOf(others), impl.Measurement{Prefix: n, Face: 3, Failures: want})); measurementsText(l) != text {
			t.Errorf("after %d failures and some answers, the list is %s, want %s", count, measurementsText(l), text)
		}
		// As the face 1 does, also after it has failed as often.
		if want == 1 {
			checkRank(t, l, n, []int{3, 1, 2, 4}, 2, 3, 1, 4)
		} else {
			checkRank(t, l, n, []int{3, 1, 2, 4}, 2, 1, 3, 4)
		}
	}
	// The last answer removes the element, and further ones change nothing.
	for range 3 {
		l = impl.RecordSuccess(l, n, 3)
		checkFailuresOf(t, l, n, 3, 0)
		checkRank(t, l, n, []int{3, 1, 2, 4}, 3, 2, 1, 4)
		if measurementsText(l) != measurementsText(measurementsOf(others)) || !impl.ValidMeasurements(l) {
			t.Errorf("after %d failures and the last answer, the list is %s", count, measurementsText(l))
		}
	}
	checkFailure(t, l, n, 3, append(measurementsOf(others), impl.Measurement{Prefix: n, Face: 3, Failures: 1}))
}

// A failure after an answer counts from the half.
func TestFailuresAndAnswersTakeTurns(t *testing.T) {
	l := []impl.Measurement{}
	wants := []int{1, 2, 3, 1, 2, 1, 0, 0, 1, 0, 1, 2, 3, 4, 5, 2, 3, 4, 2, 1, 0}
	for i, call := range "fffsfsssfsfffffsffsss" {
		if call == 'f' {
			l = impl.RecordFailure(l, nameOf("a"), 2)
		} else {
			l = impl.RecordSuccess(l, nameOf("a"), 2)
		}
		checkFailuresOf(t, l, nameOf("a"), 2, wants[i])
		if len(l) != min(wants[i], 1) {
			t.Errorf("after step %d, the list is %s", i, measurementsText(l))
		}
		if wants[i] == 0 {
			checkRank(t, l, nameOf("a"), []int{2, 1}, 2, 1)
		} else {
			checkRank(t, l, nameOf("a"), []int{2, 1}, 1, 2)
		}
	}
}

func TestRankFaces(t *testing.T) {
	cases := []struct {
		list, prefix string
		faces, want  []int
	}{
		{"", "/a", nil, nil}, {"", "/a", []int{2}, []int{2}}, {"", "/a", []int{3, 1, 2}, []int{3, 1, 2}}, {"/a>1:3", "/a", []int{1}, []int{1}}, {"/a>1:3", "/a", nil, nil},
		// By the failures, whatever the order of the elements and of the faces.
		{"/a>1:3 /a>2:2 /a>3:1", "/a", []int{1, 2, 3}, []int{3, 2, 1}}, {"/a>2:2 /a>3:1 /a>1:3", "/a", []int{2, 1, 3}, []int{3, 2, 1}}, {"/a>1:1 /a>2:2 /a>3:3", "/a", []int{3, 2, 1}, []int{1, 2, 3}}, {"/a>1:50 /a>2:49", "/a", []int{1, 2}, []int{2, 1}}, {"/a>1:10 /a>2:9", "/a", []int{1, 2}, []int{2, 1}},
		// Faces without an element have failed 0 times.
		{"/a>1:1", "/a", []int{1, 2}, []int{2, 1}}, {"/a>1:1", "/a", []int{1, 2, 3, 4}, []int{2, 3, 4, 1}}, {"/a>1:1", "/a", []int{4, 1, 3, 2}, []int{4, 3, 2, 1}}, {"/a>1:1 /a>3:1", "/a", []int{4, 3, 2, 1}, []int{4, 2, 3, 1}}, {"/a>2:1", "/a", []int{1, 2}, []int{1, 2}}, {"/a>2:1", "/a", []int{1, 3}, []int{1, 3}},
		// Faces with the same failures keep their order.
		{"/a>1:3 /a>2:3", "/a", []int{1, 2}, []int{1, 2}}, {"/a>1:3 /a>2:3", "/a", []int{2, 1}, []int{2, 1}}, {"/a>1:3 /a>2:3 /a>3:1 /a>4:3", "/a", []int{4, 2, 3, 1}, []int{3, 4, 2, 1}}, {"/a>6:5 /a>5:5 /a>4:5", "/a", []int{6, 1, 5, 2, 4, 3}, []int{1, 2, 3, 6, 5, 4}},
		// A face that occurs twice has its place twice.
		{"", "/a", []int{2, 1, 2}, []int{2, 1, 2}}, {"/a>2:1", "/a", []int{2, 1, 2}, []int{1, 2, 2}}, {"/a>2:1", "/a", []int{2, 2}, []int{2, 2}}, {"/a>1:1", "/a", []int{2, 1, 2}, []int{2, 2, 1}}, {"/a>2:1 /a>1:1", "/a", []int{2, 1, 2, 3, 1}, []int{3, 2, 1, 2, 1}},
		// Only the failures of the very prefix count.
		{"/>1:9 /a/b>1:9 /b>1:9 /aa>1:9 /a>2:1", "/a", []int{2, 1}, []int{1, 2}}, {"/>1:9 /a/b>1:9 /b>1:9 /aa>1:9", "/a", []int{1, 2}, []int{1, 2}}, {"/>1:9", "/a", []int{1, 2}, []int{1, 2}}, {"/>1:9", "/", []int{1, 2}, []int{2, 1}}, {"/a>1:9", "/", []int{1, 2}, []int{1, 2}}, {"/a>1:9 />2:1", "/", []int{2, 1}, []int{1, 2}}, {"/a>1:9", "/a/b", []int{1, 2}, []int{1, 2}},
		// Of elements that occur twice, only the first one counts.
		{"/a>1:1 /a>2:2 /a>1:3", "/a", []int{2, 1}, []int{1, 2}}, {"/a>1:3 /a>2:2 /a>1:1", "/a", []int{1, 2}, []int{2, 1}}, {"/a>1:0 /a>1:3", "/a", []int{1, 2}, []int{1, 2}},
		// Faces, names and failures that are not valid.
		{"/a>0:2 /a>7:1", "/a", []int{0, 7, -1, 8}, []int{-1, 8, 7, 0}}, {"/A>1:1", "/A", []int{1, 2}, []int{2, 1}}, {"/a>1:-1 /a>2:0 /a>3:51", "/a", []int{3, 4, 2, 1}, []int{1, 4, 2, 3}}, {"/a>1:9223372036854775807 /a>2:-9223372036854775808", "/a", []int{1, 3, 2}, []int{2, 3, 1}}, {"/a>9223372036854775807:1", "/a", []int{math.MaxInt, math.MinInt}, []int{math.MinInt, math.MaxInt}},
	}
	for _, c := range cases {
		checkRank(t, measurementsOf(c.list), named(c.prefix), c.faces, c.want...)
	}
	for _, none := range emptyMeasurements {
		for _, l := range [][]int{nil, {}, {5}, {6, 5, 4, 3, 2, 1}, notFaces, faces, {3, 3, 3}} {
			checkRank(t, none, nameOf("a"), l, l...)
		}
	}
}

func TestRankFacesInEachOrder(t *testing.T) {
	l := measurementsOf("/a>5:2 /a>1:1 /a>2:2 /a>4:1 /a>3:3 />6:9")
	eachOrder([]int{1, 2, 3, 4, 5, 6}, func(faces []int) {
		groups := make([][]int, 4)
		for _, face := range faces {
			at := []int{0, 1, 2, 3, 1, 2, 0}[face]
			groups[at] = append(groups[at], face)
		}
		checkRank(t, l, nameOf("a"), faces, slices.Concat(groups...)...)
	})
	eachOrder(l, func(l []impl.Measurement) {
		checkRank(t, l, nameOf("a"), []int{1, 2, 3, 4, 5, 6}, 6, 1, 4, 2, 5, 3)
	})
}

// All faces have one of four numbers of failures each.
func TestRankFacesOfEachCount(t *testing.T) {
	for _, digits := range sequences([]string{"0", "1", "2", "50"}, 6) {
		l := []impl.Measurement{}
		for i, digit := range digits {
			if count := integer(digit); count > 0 {
				l = append(l, impl.Measurement{Prefix: nameOf("a"), Face: 1 + i, Failures: count})
			}
		}
		for _, order := range [][]int{{1, 2, 3, 4, 5, 6}, {6, 5, 4, 3, 2, 1}, {4, 1, 6, 2}, {5, 5, 3, 5, 3, 1}} {
			checkRank(t, l, nameOf("a"), order, model15Rank(l, nameOf("a"), order)...)
		}
	}
	for _, a := range slices.Concat(failures, notFailures, anyIntegers) {
		for _, b := range slices.Concat(failures, notFailures, anyIntegers) {
			l := []impl.Measurement{{Prefix: nameOf("a"), Face: 2, Failures: a}, {Prefix: nameOf("a"), Face: 1, Failures: b}}
			if b < a {
				checkRank(t, l, nameOf("a"), []int{2, 1}, 1, 2)
			} else {
				checkRank(t, l, nameOf("a"), []int{2, 1}, 2, 1)
			}
		}
	}
}

// The faces may be as many as they like, and keep their order also then.
func TestRankManyFaces(t *testing.T) {
	l := measurementsOf("/a>1:2 /a>3:1 /a>5:2 /a>100:1 /a>200:7")
	for _, length := range []int{7, 12, 13, 24, 100, 1000} {
		many := []int{}
		for i := range length {
			many = append(many, (i*37)%211)
		}
		checkRank(t, l, nameOf("a"), many, model15Rank(l, nameOf("a"), many)...)
		for i := range many {
			many[i] = 1 + i%6
		}
		checkRank(t, l, nameOf("a"), many, model15Rank(l, nameOf("a"), many)...)
	}
}

func TestWorstFailures(t *testing.T) {
	for _, none := range emptyMeasurements {
		checkWorst(t, none, 0)
	}
	for s, want := range map[string]int{
		"/a>1:1": 1, "/a>1:50": 50, "/a>1:3 /b>2:7 />4:5": 7, "/a>1:9 /b>2:7 />4:5": 9, "/a>1:3 /b>2:7 />4:8": 8, "/a>6:1 /b>5:2": 2, "/a>1:9 /b>1:10": 10, "/>1:4": 4,
		// Also of elements that occur twice, or are not valid.
		"/a>1:3 /a>1:5": 5, "/a>1:5 /a>1:3": 5, "/A>9:51 /a>1:1": 51, "/a>1:-3": 0, "/a>1:0": 0, "/a>1:-3 /b>1:-1": 0, "/a>1:-3 /b>1:1": 1, "/a>1:-9223372036854775808": 0, "/a>1:9223372036854775807 /b>1:-9223372036854775808": math.MaxInt,
	} {
		checkWorst(t, measurementsOf(s), want)
	}
	for _, n := range slices.Concat(failures, notFailures, anyIntegers) {
		checkWorst(t, []impl.Measurement{{Prefix: nameOf("a"), Face: 1, Failures: n}}, max(0, n))
	}
	for _, length := range []int{1, 2, 24, 25, 60, 300} {
		for at := range length {
			l := numberedMeasurements(length)
			l[at].Failures = 77
			checkWorst(t, l, 77)
		}
	}
}

func checkEqualMeasurements(t *testing.T, a, b []impl.Measurement, want bool) {
	t.Helper()
	if impl.EqualMeasurements(a, b) != want || impl.EqualMeasurements(b, a) != want {
		t.Errorf("EqualMeasurements of %s and %s = %v, %v, want %v", measurementsText(a), measurementsText(b), impl.EqualMeasurements(a, b), impl.EqualMeasurements(b, a), want)
	}
}

func TestEqualMeasurements(t *testing.T) {
	for _, a := range emptyMeasurements {
		for _, b := range emptyMeasurements {
			checkEqualMeasurements(t, a, b, true)
		}
		checkEqualMeasurements(t, a, make([]impl.Measurement, 1), false)
		checkEqualMeasurements(t, a, numberedMeasurements(1), false)
	}
	for _, n := range emptyNames {
		for _, m := range emptyNames {
			checkEqualMeasurements(t, []impl.Measurement{{Prefix: n, Face: 1}}, []impl.Measurement{{Prefix: m, Face: 1}}, true)
		}
		checkEqualMeasurements(t, []impl.Measurement{{Prefix: n, Face: 1}}, []impl.Measurement{{Prefix: nameOf(""), Face: 1}}, false)
	}
	// The order matters, and how often an element occurs, also if only the first one counts.
	checkEqualMeasurements(t, measurementsOf("/a>1:3 /b>1:3"), measurementsOf("/b>1:3 /a>1:3"), false)
	checkEqualMeasurements(t, measurementsOf("/a>1:3 /a>1:3"), measurementsOf("/a>1:3"), false)
	checkEqualMeasurements(t, measurementsOf("/a>1:3 /a>1:5"), measurementsOf("/a>1:3 /a>1:7"), false)
	checkEqualMeasurements(t, measurementsOf("/a>1:3 /a>1:3 /b>1:3"), measurementsOf("/a>1:3 /b>1:3 /b>1:3"), false)
	checkEqualMeasurements(t, measurementsOf("/a>1:3"), measurementsOf("/a>3:1"), false)
	for _, a := range slices.Concat(anyIntegers, notFaces, notFailures) {
		for _, b := range slices.Concat(anyIntegers, notFaces, notFailures) {
			checkEqualMeasurements(t, []impl.Measurement{{Face: a}}, []impl.Measurement{{Face: b}}, a == b)
			checkEqualMeasurements(t, []impl.Measurement{{Failures: a}}, []impl.Measurement{{Failures: b}}, a == b)
		}
	}
}

func TestEqualMeasurementsOfShortLists(t *testing.T) {
	all := shortMeasurements()
	for i, a := range all {
		checkEqualMeasurements(t, a, guardMeasurements(a).slice, true)
		for j, b := range all {
			if got := impl.EqualMeasurements(a, b); got != (i == j) {
				t.Fatalf("EqualMeasurements(%s, %s) = %v", measurementsText(a), measurementsText(b), got)
			}
		}
	}
}

func TestEqualMeasurementsOfOneChange(t *testing.T) {
	changes := map[string]func(m *impl.Measurement){
		"the prefix":    func(m *impl.Measurement) { m.Prefix = numberedName(77) },
		"a part more":   func(m *impl.Measurement) { m.Prefix = nameOf(m.Prefix.Parts[0], "a") },
		"a part less":   func(m *impl.Measurement) { m.Prefix = nameOf() },
		"the face":      func(m *impl.Measurement) { m.Face++ },
		"more failures": func(m *impl.Measurement) { m.Failures++ },
		"less failures": func(m *impl.Measurement) { m.Failures-- },
	}
	for length := 1; length <= 26; length++ {
		checkEqualMeasurements(t, numberedMeasurements(length), numberedMeasurements(length), true)
		for at := range length {
			for what, change := range changes {
				l := numberedMeasurements(length)
				change(&l[at])
				if impl.EqualMeasurements(numberedMeasurements(length), l) || impl.EqualMeasurements(l, numberedMeasurements(length)) {
					t.Errorf("EqualMeasurements of %d measurements, with a change of %s at %d, = true", length, what, at)
				}
			}
			checkEqualMeasurements(t, numberedMeasurements(length), slices.Delete(numberedMeasurements(length), at, at+1), false)
		}
	}
}

func TestShortMeasurementsAgainstTheModel(t *testing.T) {
	names := namesOf("/", "/a", "/a/b", "/b", "/A", "/aa")
	for _, l := range shortMeasurements() {
		for _, n := range names {
			for _, face := range []int{0, 1, 2, 4, 7} {
				checkMeasured(t, l, n, face)
			}
		}
		checkWorst(t, l, model15Worst(l))
	}
}

// Names that are not valid may have the same text, and are different all the same.
func TestMeasurementsOfPrefixesWithTheSameText(t *testing.T) {
	l := []impl.Measurement{}
	for i, n := range sameTexts {
		l = append(l, impl.Measurement{Prefix: n, Face: 1, Failures: i + 1})
	}
	for i, n := range sameTexts {
		checkMeasured(t, l, n, 1)
		checkMeasured(t, l[i:], n, 1)
		checkMeasured(t, l[:i], n, 1)
		for _, m := range sameTexts {
			pair := []impl.Measurement{{Prefix: n, Face: 1, Failures: 2}, {Prefix: m, Face: 1, Failures: 1}}
			checkValidMeasurements(t, pair, model15Valid(pair))
			checkMeasured(t, pair, m, 1)
			checkMeasured(t, pair[:1], m, 1)
		}
	}
}

// Promise 15: whatever failed and answered before, a face that fails is ranked after those that do not.
func TestAFaceThatFailsIsRankedAfterThoseThatDoNot(t *testing.T) {
	texts := []string{"/", "/a", "/a/b", "/b"}
	type at struct {
		text string
		face int
	}
	l := []impl.Measurement{}
	// kept has the failures of each prefix and face.
	kept := map[at]int{}
	number, forgotten, most := uint32(15), 0, 0
	for step := range 6000 {
		number = number*1664525 + 1013904223
		x := at{texts[int(number>>8)%len(texts)], 1 + int(number>>20)%6}
		// Some faces answer often, others seldom.
		if int(number>>12)%8 > x.face {
			l = impl.RecordSuccess(l, named(x.text), x.face)
			if kept[x] /= 2; kept[x] == 0 {
				delete(kept, x)
				forgotten++
			}
		} else {
			l = impl.RecordFailure(l, named(x.text), x.face)
			kept[x] = min(50, kept[x]+1)
			most = max(most, kept[x])
		}
		if !impl.ValidMeasurements(l) || len(l) != len(kept) {
			t.Fatalf("after step %d, the measurements are %s", step, measurementsText(l))
		}
		for _, text := range texts {
			order := []int{1, 2, 3, 4, 5, 6}
			slices.SortFunc(order, func(a, b int) int { return (a*step)%7 - (b*step)%7 })
			ranked := impl.RankFaces(l, named(text), order)
			if sorted := slices.Sorted(slices.Values(ranked)); !slices.Equal(sorted, []int{1, 2, 3, 4, 5, 6}) {
				t.Fatalf("RankFaces(%s, %s, %v) = %v", measurementsText(l), text, order, ranked)
			}
			for i, face := range ranked {
				count := kept[at{text, face}]
				checkFailuresOf(t, l, named(text), face, count)
				if i == 0 {
					continue
				}
				before := kept[at{text, ranked[i-1]}]
				if before > count || before == count && slices.Index(order, ranked[i-1]) > slices.Index(order, face) {
					t.Fatalf("RankFaces(%s, %s, %v) = %v", measurementsText(l), text, order, ranked)
				}
			}
		}
		if t.Failed() {
			t.Fatalf("after step %d", step)
		}
	}
	if forgotten == 0 || most != 50 {
		t.Errorf("%d times a face was forgotten; the most failures were %d", forgotten, most)
	}
}

// After one failure more than all others, a face is the last one; after enough answers, it is where it was.
func TestEachFaceFailsAndAnswersAgain(t *testing.T) {
	order := []int{4, 2, 6, 1, 5, 3}
	for _, face := range order {
		for count := 1; count <= 52; count++ {
			l := []impl.Measurement{}
			for range count {
				l = impl.RecordFailure(l, nameOf("a"), face)
			}
			others := slices.DeleteFunc(slices.Clone(order), func(other int) bool { return other == face })
			for left := min(count, 50); left > 0; left /= 2 {
				checkRank(t, l, nameOf("a"), order, append(slices.Clone(others), face)...)
				l = impl.RecordSuccess(l, nameOf("a"), face)
			}
			checkRank(t, l, nameOf("a"), order, order...)
			checkWorst(t, l, 0)
		}
	}
}

// A long series of failures and answers, also of what is not valid and in full lists, leaves what the model has, and always a valid list.
func TestSeriesOfOperationsOnMeasurements(t *testing.T) {
	l, want := []impl.Measurement{}, []impl.Measurement{}
	number, full := uint32(44), 0
	for step := range 10000 {
		number = number*1664525 + 1013904223
		face := int(number>>24)%9 - 1
		n := numberedName(int(number>>16) % 9)
		n.Parts = slices.Concat([]string{"a"}, n.Parts, []string{"B"})[int(number>>12)%2 : 1+int(number>>13)%3]
		if number>>9%5 < 2 {
			l, want = impl.RecordSuccess(l, n, face), model15Success(want, n, face)
		} else {
			l, want = impl.RecordFailure(l, n, face), model15Failure(want, n, face)
		}
		if measurementsText(l) != measurementsText(want) || !impl.EqualMeasurements(l, want) {
			t.Fatalf("the measurements after step %d are %s, want %s", step, measurementsText(l), measurementsText(want))
		}
		if len(l) == 24 {
			full++
		}
		checkMeasured(t, l, n, face)
		checkWorst(t, l, model15Worst(want))
		checkValidMeasurements(t, l, true)
		if t.Failed() {
			return
		}
	}
	if full == 0 {
		t.Errorf("the list was never full")
	}
}

func guardMeasurements(l []impl.Measurement) guardedList[impl.Measurement] {
	return guardList(l, measurementsOf("/q>1:3 /a>2:1 />1:1 /A>0:-5 /n000>1:7 /a/b>3:2 /n024>6:1"), func(m *impl.Measurement) []*[]string { return []*[]string{&m.Prefix.Parts} }, measurementsText)
}

// scribbleMeasurements changes all memory of a list.
func scribbleMeasurements(l []impl.Measurement) {
	whole := l[:cap(l)]
	for i := range whole {
		scribbleParts(whole[i].Prefix)
		whole[i] = impl.Measurement{Prefix: nameOf("changed"), Face: -77, Failures: -77}
	}
}

// memoryMeasurements are lists, valid or not; memoryMeasured have prefixes and faces of which some are in some of them, and some are not valid.
func memoryMeasurements() [][]impl.Measurement {
	return [][]impl.Measurement{
		nil, {}, measurementsOf("/>1:5"), measurementsOf("/a>2:1"), measurementsOf("/a>2:3 /a>1:3 />4:1"), measurementsOf("/a/b>3:9 /a>2:50 /a/b>1:9 />2:2"), measurementsOf("/a>2:3 /a>2:3"), measurementsOf("/a>2:1 /b>1:1 /a>2:3"), measurementsOf("/A>1:1 /a>0:1 /a>2:1001"), measurementsOf("/a/b/c/d/e/f/g>2:1 /a/b/c/d/e/f>2:1"),
		numberedMeasurements(23), numberedMeasurements(24), numberedMeasurements(25), sharedMeasurements(24), sharedMeasurements(40),
	}
}

func memoryMeasured() []impl.Measurement {
	return append(measurementsOf("/>1:5 />2:7 /a>2:9 /a>3:3 /a/b>1:1 /n000>1:77 /n024>1:5 /a/b/c/d/e/f>2:7 /a>0:1 /A>1:1 /a/b/c/d/e/f/g>2:1"), impl.Measurement{})
}

func TestMeasurementsAreLeftAsTheyAre(t *testing.T) {
	for _, l := range memoryMeasurements() {
		for _, m := range memoryMeasured() {
			g, other, parts := guardMeasurements(l), guardMeasurements(l), guardWith(m.Prefix.Parts, spareParts)
			ranked := guard([]int{m.Face, 3, 2, 1, 4})
			m.Prefix = impl.Name{Parts: parts.slice}
			calls := []struct {
				what string
				call func()
			}{
				{"ValidMeasurements", func() { impl.ValidMeasurements(g.slice) }},
				{"FailuresOf", func() { impl.FailuresOf(g.slice, m.Prefix, m.Face) }},
				{"RecordFailure", func() { impl.RecordFailure(g.slice, m.Prefix, m.Face) }},
				{"RecordSuccess", func() { impl.RecordSuccess(g.slice, m.Prefix, m.Face) }},
				{"RankFaces", func() { impl.RankFaces(g.slice, m.Prefix, ranked.slice) }},
				{"WorstFailures", func() { impl.WorstFailures(g.slice) }},
				{"EqualMeasurements", func() { impl.EqualMeasurements(g.slice, other.slice) }},
			}
			for _, c := range calls {
				c.call()
				g.check(t, c.what)
				other.check(t, c.what+", the second list")
				parts.check(t, c.what+", the prefix")
				ranked.check(t, c.what+", the faces")
			}
		}
	}
}

// Each of these returns measurements.
var measurementResults = []struct {
	what string
	call func(l []impl.Measurement, m impl.Measurement) []impl.Measurement
}{
	{"RecordFailure", func(l []impl.Measurement, m impl.Measurement) []impl.Measurement {
		return impl.RecordFailure(l, m.Prefix, m.Face)
	}},
	{"RecordSuccess", func(l []impl.Measurement, m impl.Measurement) []impl.Measurement {
		return impl.RecordSuccess(l, m.Prefix, m.Face)
	}},
}

func TestMeasurementsAreNewMemory(t *testing.T) {
	for _, l := range memoryMeasurements() {
		for _, m := range memoryMeasured() {
			for _, f := range measurementResults {
				g, parts := guardMeasurements(l), guardWith(m.Prefix.Parts, spareParts)
				measured := impl.Measurement{Prefix: impl.Name{Parts: parts.slice}, Face: m.Face}
				first, second := f.call(g.slice, measured), f.call(g.slice, measured)
				want := measurementsText(second)
				scribbleMeasurements(first)
				g.check(t, f.what+", its result changed")
				parts.check(t, f.what+", its result changed, the prefix")
				scribbleMeasurements(g.slice)
				scribbleParts(measured.Prefix)
				if measurementsText(second) != want {
					t.Errorf("%s of %s, %s shares memory with its arguments or with another result", f.what, measurementsText(l), measurementsText([]impl.Measurement{m}))
				}
			}
		}
	}
}

func TestRankedFacesAreNewMemory(t *testing.T) {
	for _, l := range memoryMeasurements() {
		for _, m := range memoryMeasured() {
			for _, some := range [][]int{nil, {}, {m.Face}, {m.Face, 9}, {3, 2, 1}, {1, 1, 1}} {
				g := guard(some)
				first, second := impl.RankFaces(l, m.Prefix, g.slice), impl.RankFaces(l, m.Prefix, g.slice)
				scribble(first)
				g.check(t, "RankFaces, its result changed")
				scribble(g.slice)
				if want := model15Rank(l, m.Prefix, some); !slices.Equal(second, want) {
					t.Errorf("RankFaces(%s, %q, %v) shares memory: %v, want %v", measurementsText(l), m.Prefix.Parts, some, second, want)
				}
			}
		}
	}
}

// The prefixes of a result are apart from each other, also where those of the argument are parts of one array.
func TestPrefixesOfMeasurementsAreApart(t *testing.T) {
	parts := []string{"a", "b", "c", "d", "e", "f"}
	l := []impl.Measurement{}
	for i := range 5 {
		l = append(l, impl.Measurement{Prefix: nameOf(parts[:i]...), Face: 1 + i%2, Failures: i})
	}
	for _, m := range []impl.Measurement{{Prefix: nameOf(parts[:1]...), Face: 2}, {Prefix: nameOf(parts[:2]...), Face: 3}, {Prefix: nameOf(parts[1:]...), Face: 1}, {Prefix: nameOf(parts...), Face: 0}} {
		for _, f := range measurementResults {
			for at := range f.call(l, m) {
				result := f.call(l, m)
				others := measurementsText(result[:at]) + measurementsText(result[at+1:])
				scribbleParts(result[at].Prefix)
				if measurementsText(result[:at])+measurementsText(result[at+1:]) != others {
					t.Errorf("%s: the prefix at %d shares memory with others", f.what, at)
				}
			}
		}
	}
	if !slices.Equal(parts, []string{"a", "b", "c", "d", "e", "f"}) {
		t.Errorf("the array of the prefixes is %q", parts)
	}
}

// What lies behind the last measurement, the last face, or the parts of a prefix or a name counts for nothing.
func TestSpareMemoryOfMeasurementsIsNotRead(t *testing.T) {
	l := measurementsOf("/a>1:3 /a>2:9 /b>1:1 /A>0:-1 /a/b>1:1 />5:50")[:1]
	l[0].Prefix.Parts = []string{"a", "b", "C"}[:1]
	same := measurementsOf("/a>1:3")
	checkValidMeasurements(t, l, true)
	checkEqualMeasurements(t, l, same, true)
	checkEqualMeasurements(t, l, measurementsOf("/a>1:3 /a>2:9"), false)
	checkWorst(t, l, 3)
	n := impl.Name{Parts: []string{"a", "b", "C"}[:1]}
	checkFailuresOf(t, l, n, 1, 3)
	checkFailuresOf(t, l, n, 2, 0)
	checkFailuresOf(t, l, nameOf("a", "b"), 1, 0)
	checkFailuresOf(t, l, nameOf("b"), 1, 0)
	checkFailure(t, l, n, 1, measurementsOf("/a>1:4"))
	checkFailure(t, l, n, 2, measurementsOf("/a>1:3 /a>2:1"))
	checkFailure(t, l, nameOf("A"), 0, same)
	checkSuccess(t, l, n, 1, measurementsOf("/a>1:1"))
	checkSuccess(t, l, n, 2, same)
	checkRank(t, l, n, []int{1, 2, 1, 2}[:2], 2, 1)
	checkFailure(t, numberedMeasurements(40)[:23], nameOf("a"), 2, append(numberedMeasurements(23), measurementOf("/a>2:1")))
	checkFailure(t, numberedMeasurements(40)[:24], nameOf("a"), 2, numberedMeasurements(24))
	checkFailure(t, numberedMeasurements(40)[:24], numberedName(30), 1, numberedMeasurements(24))
	checkValidMeasurements(t, numberedMeasurements(40)[:24], true)
}
