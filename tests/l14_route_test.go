package tests

import (
	"fmt"
	"math"
	"slices"
	"strings"
	"testing"

	"loop.example/g00507/impl"
)

// routeOf makes a route, valid or not, of a text like "/a>2:3": with the prefix /a, the face 2 and the cost 3.
func routeOf(s string) impl.Route {
	prefix, s, _ := strings.Cut(s, ">")
	face, cost, _ := strings.Cut(s, ":")
	return impl.Route{Prefix: named(prefix), Face: integer(face), Cost: integer(cost)}
}

// routesOf makes routes of a text like "/a>2:3 /b>1:5"; "" are none.
func routesOf(s string) []impl.Route {
	l := []impl.Route{}
	for _, word := range strings.Fields(s) {
		l = append(l, routeOf(word))
	}
	return l
}

// numberedRoutes have prefixes of their own, /n000, /n001 and so on, and are valid if there are not too many.
func numberedRoutes(length int) []impl.Route {
	l := []impl.Route{}
	for i := range length {
		l = append(l, impl.Route{Prefix: numberedName(i), Face: 1 + i%6, Cost: i + 10})
	}
	return l
}

// sharedRoutes have six faces for each prefix, so that 24 of them have four prefixes.
func sharedRoutes(length int) []impl.Route {
	l := []impl.Route{}
	for i := range length {
		l = append(l, impl.Route{Prefix: numberedName(i / 6), Face: 1 + i%6, Cost: i % 4})
	}
	return l
}

// routesText is the same for equal lists only.
func routesText(l []impl.Route) string {
	text := ""
	for _, r := range l {
		text += fmt.Sprintf("%q>%d:%d ", r.Prefix.Parts, r.Face, r.Cost)
	}
	return text
}

var (
	emptyRoutes = [][]impl.Route{nil, {}, routesOf("/a>1:1 />2:2")[:0]}

	routeFaces    = faces[1:]
	notRouteFaces = append([]int{0}, notFaces...)

	costs    = []int{0, 1, 2, 3, 17, 255, 256, 500, 999, 1000}
	notCosts = []int{-1, -2, -1000, -1001, -1 << 32, math.MinInt, math.MinInt + 1, 1001, 1002, 1024, 2000, 1 << 32, 1<<32 + 1, impl.MaxInt, math.MaxInt - 1, math.MaxInt}

	// Routes, valid or not, of which up to three are taken together.
	shortRouteTexts = []string{"/>1:5", "/>4:0", "/a>1:5", "/a>2:5", "/a>2:3", "/a/b>3:0", "/a/b>1:5", "/A>1:1", "/a>0:2"}
)

func shortRoutes() [][]impl.Route {
	all := [][]impl.Route{}
	for _, texts := range sequences(shortRouteTexts, 3) {
		all = append(all, routesOf(strings.Join(texts, " ")))
	}
	return all
}

// The models follow the document's words without the program.
func model14Valid(l []impl.Route) bool {
	for i, r := range l {
		if !wantValidName(r.Prefix) || r.Face < 1 || r.Face > 6 || r.Cost < 0 || r.Cost > 1000 || model14Index(l[:i], r) >= 0 {
			return false
		}
	}
	return len(l) <= 24
}

func model14Index(l []impl.Route, r impl.Route) int {
	for i, other := range l {
		if slices.Equal(other.Prefix.Parts, r.Prefix.Parts) && other.Face == r.Face {
			return i
		}
	}
	return -1
}

func model14Add(l []impl.Route, r impl.Route) ([]impl.Route, bool) {
	changed := slices.Clone(l)
	if at := model14Index(l, r); at >= 0 {
		changed[at].Cost = r.Cost
	} else {
		changed = append(changed, r)
	}
	if !model14Valid(changed) {
		return l, false
	}
	return changed, true
}

func model14Remove(l []impl.Route, face int) []impl.Route {
	left := []impl.Route{}
	for _, r := range l {
		if r.Face != face {
			left = append(left, r)
		}
	}
	return left
}

func model14Prefix(l []impl.Route, n impl.Name) (impl.Name, bool) {
	for length := len(n.Parts); length >= 0; length-- {
		for _, r := range l {
			if slices.Equal(r.Prefix.Parts, n.Parts[:length]) {
				return r.Prefix, true
			}
		}
	}
	return impl.Name{}, false
}

func model14Hops(l []impl.Route, n impl.Name) []int {
	prefix, ok := model14Prefix(l, n)
	left := []impl.Route{}
	for _, r := range l {
		if ok && slices.Equal(r.Prefix.Parts, prefix.Parts) {
			left = append(left, r)
		}
	}
	hops := []int{}
	for len(left) > 0 {
		nearest := 0
		for i, r := range left {
			if r.Cost < left[nearest].Cost || r.Cost == left[nearest].Cost && r.Face < left[nearest].Face {
				nearest = i
			}
		}
		hops = append(hops, left[nearest].Face)
		left = slices.Delete(left, nearest, nearest+1)
	}
	return hops
}

func model14Text(l []impl.Route) string {
	words := []string{}
	for _, r := range l {
		words = append(words, fmt.Sprintf("/%s>%d:%d", strings.Join(r.Prefix.Parts, "/"), r.Face, r.Cost))
	}
	if len(l) == 0 {
		return "-"
	}
	return strings.Join(words, " ")
}

func checkValidRoutes(t *testing.T, l []impl.Route, want bool) {
	t.Helper()
	if got := impl.ValidRoutes(l); got != want {
		t.Errorf("ValidRoutes(%s) = %v", routesText(l), got)
	}
}

func checkAddRoute(t *testing.T, l []impl.Route, r impl.Route, want []impl.Route, wantOK bool) {
	t.Helper()
	if got, ok := impl.AddRoute(l, r); routesText(got) != routesText(want) || ok != wantOK {
		t.Errorf("AddRoute(%s, %s) = %s, %v, want %s, %v", routesText(l), routesText([]impl.Route{r}), routesText(got), ok, routesText(want), wantOK)
	}
}

// checkAdding takes what is wanted from the model.
func checkAdding(t *testing.T, l []impl.Route, r impl.Route) {
	t.Helper()
	want, ok := model14Add(l, r)
	checkAddRoute(t, l, r, want, ok)
}

func checkRemoveFace(t *testing.T, l []impl.Route, face int, want []impl.Route) {
	t.Helper()
	if got := impl.RemoveFace(l, face); routesText(got) != routesText(want) {
		t.Errorf("RemoveFace(%s, %d) = %s, want %s", routesText(l), face, routesText(got), routesText(want))
	}
}

func checkPrefix(t *testing.T, l []impl.Route, n impl.Name, want impl.Name, wantOK bool) {
	t.Helper()
	if got, ok := impl.MatchingPrefix(l, n); !slices.Equal(got.Parts, want.Parts) || ok != wantOK {
		t.Errorf("MatchingPrefix(%s, %q) = %q, %v, want %q, %v", routesText(l), n.Parts, got.Parts, ok, want.Parts, wantOK)
	}
}

func checkHops(t *testing.T, l []impl.Route, n impl.Name, want ...int) {
	t.Helper()
	if got := impl.NextHops(l, n); !slices.Equal(got, want) {
		t.Errorf("NextHops(%s, %q) = %v, want %v", routesText(l), n.Parts, got, want)
	}
}

// checkForwarding checks MatchingPrefix and NextHops of one name.
func checkForwarding(t *testing.T, l []impl.Route, n impl.Name) {
	t.Helper()
	want, ok := model14Prefix(l, n)
	checkPrefix(t, l, n, want, ok)
	checkHops(t, l, n, model14Hops(l, n)...)
}

func checkRoutesText(t *testing.T, l []impl.Route, want string) {
	t.Helper()
	if got := impl.FormatRoutes(l); got != want {
		t.Errorf("FormatRoutes(%s) = %q, want %q", routesText(l), got, want)
	}
}

func TestTheLimitsOfRoutesAreThoseOfTheDocument(t *testing.T) {
	if impl.MaxRoutes != 24 || impl.MaxCost != 1000 {
		t.Errorf("MaxRoutes = %d, MaxCost = %d", impl.MaxRoutes, impl.MaxCost)
	}
}

func TestValidRoutes(t *testing.T) {
	for _, l := range emptyRoutes {
		checkValidRoutes(t, l, true)
	}
	for length := range 50 {
		checkValidRoutes(t, numberedRoutes(length), length <= 24)
		checkValidRoutes(t, sharedRoutes(length), length <= 24)
	}
	for _, length := range []int{255, 256, 257, 256 + 24, 999} {
		checkValidRoutes(t, numberedRoutes(length), false)
		checkValidRoutes(t, sharedRoutes(length), false)
	}
	for _, l := range shortRoutes() {
		checkValidRoutes(t, l, model14Valid(l))
	}
	checkValidRoutes(t, routesOf("/b>6:1000 />1:0 /a>3:7 />2:0 /b>1:1000"), true)
	checkValidRoutes(t, make([]impl.Route, 1), false)
}

// One route of a list is replaced by another one, at each position.
func checkOneRoute(t *testing.T, r impl.Route, want bool) {
	t.Helper()
	for _, length := range []int{1, 2, 5, 24} {
		for at := range length {
			l := numberedRoutes(length)
			l[at] = r
			checkValidRoutes(t, l, want)
		}
	}
}

func TestValidRoutesOfEachField(t *testing.T) {
	for _, n := range slices.Concat(emptyNames, notNames, ascendingNames, wantNames) {
		checkOneRoute(t, impl.Route{Prefix: n, Face: 2, Cost: 3}, wantValidName(n))
	}
	for _, face := range routeFaces {
		checkOneRoute(t, impl.Route{Prefix: nameOf("a"), Face: face, Cost: 3}, true)
	}
	for _, face := range notRouteFaces {
		checkOneRoute(t, impl.Route{Prefix: nameOf("a"), Face: face, Cost: 3}, false)
	}
	for _, cost := range costs {
		checkOneRoute(t, impl.Route{Prefix: nameOf("a"), Face: 2, Cost: cost}, true)
	}
	for _, cost := range notCosts {
		checkOneRoute(t, impl.Route{Prefix: nameOf("a"), Face: 2, Cost: cost}, false)
	}
}

// A prefix may occur with each face, and a face with each prefix; but not the same prefix with the same face, wherever and at whatever cost.
func TestValidRoutesOfEachPrefixAndFace(t *testing.T) {
	for length := 2; length <= 24; length++ {
		for i := range length {
			for j := range length {
				l := numberedRoutes(length)
				l[i].Prefix, l[i].Face = l[j].Prefix, l[j].Face
				checkValidRoutes(t, l, i == j)
				l[i].Face = 1 + l[j].Face%6
				checkValidRoutes(t, l, true)
			}
		}
	}
	for set := range 64 {
		l := []impl.Route{}
		for _, face := range routeFaces {
			if set>>(face-1)%2 == 1 {
				l = append(l, impl.Route{Prefix: nameOf("a"), Face: face, Cost: 3}, impl.Route{Prefix: nameOf(), Face: face, Cost: 3}, impl.Route{Prefix: nameOf("a", "b"), Face: face, Cost: face})
			}
		}
		checkValidRoutes(t, l, true)
		for _, r := range l {
			if len(l) < 24 {
				r.Cost++
				checkValidRoutes(t, append(slices.Clone(l), r), false)
			}
		}
	}
	checkValidRoutes(t, routesOf("/a>1:3 /a/a>1:3 /aa>1:3 />1:3 /a>2:3 /b/a>1:3"), true)
	checkValidRoutes(t, routesOf("/a>1:3 /b>1:3 /a>2:3 /a>1:4"), false)
	checkValidRoutes(t, routesOf("/>1:3 /b>1:3 />1:3"), false)
	// The texts of a prefix and a face are not what is compared.
	checkValidRoutes(t, []impl.Route{{Prefix: nameOf("a1"), Face: 1}, {Prefix: nameOf("a"), Face: 1}, {Prefix: nameOf("a", "1"), Face: 1}, {Prefix: nameOf("a11"), Face: 1}}, true)
}

func TestAddRoute(t *testing.T) {
	cases := []struct{ before, added, after string }{
		// A new route, always at the end.
		{"", "/a>2:3", "/a>2:3"}, {"", "/>1:0", "/>1:0"}, {"", "/a/b/c/d/e/f>6:1000", "/a/b/c/d/e/f>6:1000"}, {"/b>2:3", "/a>2:3", "/b>2:3 /a>2:3"}, {"/a>2:3", "/>2:3", "/a>2:3 />2:3"}, {"/a>2:9 /b>1:1", "/aa>2:3", "/a>2:9 /b>1:1 /aa>2:3"}, {"/a>2:9", "/a/b>2:9", "/a>2:9 /a/b>2:9"}, {"/a/b>2:9", "/a>2:9", "/a/b>2:9 /a>2:9"},
		// The same prefix with another face.
		{"/a>2:3", "/a>1:3", "/a>2:3 /a>1:3"}, {"/a>1:3 /b>2:1", "/a>2:3", "/a>1:3 /b>2:1 /a>2:3"}, {"/>1:3", "/>6:3", "/>1:3 />6:3"}, {"/a>1:1 /a>2:2 /a>3:3 /a>4:4 /a>5:5", "/a>6:6", "/a>1:1 /a>2:2 /a>3:3 /a>4:4 /a>5:5 /a>6:6"},
		// A prefix and a face that are there: only the cost changes, wherever the route is, also to the same one.
		{"/a>2:3", "/a>2:4", "/a>2:4"}, {"/a>2:3", "/a>2:3", "/a>2:3"}, {"/a>2:3", "/a>2:0", "/a>2:0"}, {"/a>2:3", "/a>2:1000", "/a>2:1000"}, {"/a>2:3 /b>2:5 /a>1:7", "/a>2:9", "/a>2:9 /b>2:5 /a>1:7"}, {"/a>2:3 /b>2:5 /a>1:7", "/b>2:9", "/a>2:3 /b>2:9 /a>1:7"}, {"/a>2:3 /b>2:5 /a>1:7", "/a>1:9", "/a>2:3 /b>2:5 /a>1:9"}, {"/a>2:3 />2:5", "/>2:9", "/a>2:3 />2:9"},
		// A cost that was not valid becomes a valid one, and with it the list.
		{"/a>2:1001", "/a>2:1000", "/a>2:1000"}, {"/b>1:3 /a>2:-1", "/a>2:0", "/b>1:3 /a>2:0"},
	}
	for _, c := range cases {
		checkAddRoute(t, routesOf(c.before), routeOf(c.added), routesOf(c.after), true)
	}
	for _, none := range emptyRoutes {
		checkAddRoute(t, none, routeOf("/a>2:3"), routesOf("/a>2:3"), true)
	}
}

func TestAddRouteWithAnInvalidResult(t *testing.T) {
	cases := []struct{ before, added string }{
		{"", "/a>0:3"}, {"", "/a>7:3"}, {"", "/a>2:-1"}, {"", "/a>2:1001"}, {"", "/A>2:3"}, {"", "/a/b/c/d/e/f/g>2:3"}, {"", "/a/>2:3"}, {"/b>1:1", "/a>0:3"}, {"/a>1:1", "/a>0:3"},
		// A cost that is not valid, of a route that is there.
		{"/a>2:3", "/a>2:-1"}, {"/a>2:3", "/a>2:1001"}, {"/b>1:1 /a>2:3", "/a>2:1001"},
		// A list that is not valid before, and would not be so with the route.
		{"/A>1:1", "/a>2:3"}, {"/a>0:1", "/b>2:3"}, {"/a>7:1 /b>2:5", "/b>2:3"}, {"/b>1:-1", "/a>2:3"}, {"/b>1:1001 /a>2:5", "/a>2:3"}, {"/a>2:5 /a>2:5", "/a>2:3"}, {"/a>2:5 /a>2:5", "/b>2:3"}, {"/a>2:5 /b>1:1 /a>2:7", "/a>2:3"}, {"/A>1:1", "/A>1:2"}, {"/a>0:1", "/a>0:2"}, {"/a>2:-1 /b>2:-1", "/a>2:3"},
	}
	for _, c := range cases {
		checkAddRoute(t, routesOf(c.before), routeOf(c.added), routesOf(c.before), false)
	}
	for _, none := range emptyRoutes {
		checkAddRoute(t, none, impl.Route{}, nil, false)
	}
}

// A face or a prefix that is not valid is none of those that are there, however near it is to one of them.
func TestAddRouteBesideAllFaces(t *testing.T) {
	l := routesOf("/a>1:1 /a>2:2 /a>3:3 /a>4:4 /a>5:5 /a>6:6 />1:7 /a/b>1:8")
	for _, face := range notRouteFaces {
		checkAddRoute(t, l, impl.Route{Prefix: nameOf("a"), Face: face, Cost: 9}, l, false)
	}
	for _, n := range slices.Concat(notNames, []impl.Name{nameOf("a/b"), nameOf("a", "", "b"), nameOf("", "a"), nameOf("a", ""), nameOf("A"), nameOf("a\x00")}) {
		for _, face := range routeFaces {
			checkAddRoute(t, l, impl.Route{Prefix: n, Face: face, Cost: 9}, l, false)
		}
	}
	for at := range l {
		want := slices.Clone(l)
		want[at].Cost = 9
		checkAddRoute(t, l, want[at], want, true)
	}
}

func TestAddRouteOfEachField(t *testing.T) {
	for _, length := range []int{0, 1, 3, 23, 24, 25} {
		added := func(r impl.Route, isValid bool) {
			t.Helper()
			l := numberedRoutes(length)
			if isValid && length < 24 {
				checkAddRoute(t, l, r, append(numberedRoutes(length), r), true)
			} else {
				checkAddRoute(t, l, r, l, false)
			}
			// The cost of a route that is there is set at each position.
			for at := range length {
				l, want := numberedRoutes(length), numberedRoutes(length)
				l[at].Prefix, l[at].Face = r.Prefix, r.Face
				want[at] = r
				if isValid && length <= 24 {
					checkAddRoute(t, l, r, want, true)
				} else {
					checkAddRoute(t, l, r, l, false)
				}
			}
		}
		for _, n := range slices.Concat(emptyNames, notNames, wantNames) {
			added(impl.Route{Prefix: n, Face: 2, Cost: 3}, wantValidName(n))
		}
		for _, face := range routeFaces {
			added(impl.Route{Prefix: nameOf("a"), Face: face, Cost: 3}, true)
		}
		for _, face := range notRouteFaces {
			added(impl.Route{Prefix: nameOf("a"), Face: face, Cost: 3}, false)
		}
		for _, cost := range costs {
			added(impl.Route{Prefix: nameOf("a"), Face: 2, Cost: cost}, true)
		}
		for _, cost := range notCosts {
			added(impl.Route{Prefix: nameOf("a"), Face: 2, Cost: cost}, false)
		}
	}
}

// A new route takes the last free place, and none behind it; one that is there needs none, as long as there are not too many.
func TestTheLastFreeRoute(t *testing.T) {
	for _, routes := range []func(int) []impl.Route{numberedRoutes, sharedRoutes} {
		for _, length := range []int{0, 1, 22, 23, 24, 25, 26, 48, 255, 256, 256 + 23, 256 + 24} {
			l := routes(length)
			if length < 24 {
				checkAddRoute(t, l, routeOf("/a>2:3"), append(routes(length), routeOf("/a>2:3")), true)
			} else {
				checkAddRoute(t, l, routeOf("/a>2:3"), l, false)
			}
			for _, at := range []int{0, 1, 5, 22, 23, 24, length - 1} {
				if at < 0 || at >= length {
					continue
				}
				r, want := l[at], routes(length)
				r.Cost = 77
				if want[at].Cost = 77; length <= 24 {
					checkAddRoute(t, l, r, want, true)
				} else {
					checkAddRoute(t, l, r, l, false)
				}
				r.Cost = 1001
				checkAddRoute(t, l, r, l, false)
			}
		}
	}
	// As soon as a face is removed from a full list, there is room for as many routes as it had.
	full := sharedRoutes(24)
	for _, face := range routeFaces {
		l, ok := impl.RemoveFace(full, face), true
		for i := range 5 {
			l, ok = impl.AddRoute(l, impl.Route{Prefix: numberedName(50 + i), Face: face, Cost: i})
			if ok != (i < 4) || len(l) != min(21+i, 24) || !impl.ValidRoutes(l) {
				t.Fatalf("AddRoute %d after RemoveFace(%d) = %s, %v", i, face, routesText(l), ok)
			}
		}
	}
}

func TestAddRouteToAllShortLists(t *testing.T) {
	added := routesOf("/>1:7 />2:1000 /a>1:0 /a>2:5 /a>3:5 /a/b>1:9 /c>6:1 /c>0:1 /c>7:1 /A>1:2 /a>0:2 /a>1:-1 /b>1:1001")
	for _, l := range shortRoutes() {
		for _, r := range added {
			checkAdding(t, l, r)
		}
	}
}

func TestRemoveFace(t *testing.T) {
	cases := []struct {
		before string
		face   int
		after  string
	}{
		{"", 1, ""}, {"/a>2:3", 2, ""}, {"/a>2:3", 3, "/a>2:3"}, {"/a>2:3", 1, "/a>2:3"}, {"/a>2:3 /b>1:5 /c>2:7", 2, "/b>1:5"}, {"/a>2:3 /b>1:5 /c>2:7", 1, "/a>2:3 /c>2:7"}, {"/a>2:3 /b>1:5 /c>2:7", 6, "/a>2:3 /b>1:5 /c>2:7"},
		{"/c>1:3 /a>2:5 /b>1:7 />3:1", 2, "/c>1:3 /b>1:7 />3:1"}, {"/a>2:1 /b>2:2 /c>2:3", 2, ""}, {"/a>1:1 /a>2:2 /a>3:3", 2, "/a>1:1 /a>3:3"}, {"/a>1:1 /a>2:2 /a>3:3", 1, "/a>2:2 /a>3:3"}, {"/a>1:1 /a>2:2 /a>3:3", 3, "/a>1:1 /a>2:2"},
		// A cost is no face.
		{"/a>2:1 /b>1:2", 2, "/b>1:2"}, {"/a>1:4 /b>3:4", 4, "/a>1:4 /b>3:4"},
		// Faces and routes that are not valid.
		{"/a>0:3 /b>7:4 /A>-1:5 /a>0:3 />1:-1", 0, "/b>7:4 /A>-1:5 />1:-1"}, {"/a>0:3 /b>7:4 /A>-1:5", 7, "/a>0:3 /A>-1:5"}, {"/a>0:3 /b>7:4 /A>-1:5", -1, "/a>0:3 /b>7:4"}, {"/a>1:3 /a>1:3 /a>2:3 /a>2:3", 1, "/a>2:3 /a>2:3"},
	}
	for _, c := range cases {
		checkRemoveFace(t, routesOf(c.before), c.face, routesOf(c.after))
	}
	for _, face := range slices.Concat(faces, notFaces) {
		for _, none := range emptyRoutes {
			checkRemoveFace(t, none, face, nil)
		}
		for _, length := range []int{1, 6, 7, 23, 24, 25, 40} {
			checkRemoveFace(t, numberedRoutes(length), face, model14Remove(numberedRoutes(length), face))
			checkRemoveFace(t, sharedRoutes(length), face, model14Remove(sharedRoutes(length), face))
		}
		// The face of all routes, whatever it is.
		l := []impl.Route{{Prefix: nameOf("a"), Face: face, Cost: 3}, {Prefix: nameOf(), Face: face}, {Prefix: nameOf("b"), Face: face, Cost: 5}}
		checkRemoveFace(t, l, face, nil)
		for _, other := range slices.Concat(faces, notFaces) {
			checkRemoveFace(t, l, other, model14Remove(l, other))
		}
	}
}

// Each set of the routes of a list has the face that is removed.
func TestRemoveFaceOfEachSet(t *testing.T) {
	for set := range 1 << 8 {
		l, want := numberedRoutes(8), []impl.Route{}
		for i := range l {
			l[i].Face = 3 + set>>i%2
			if l[i].Face == 3 {
				want = append(want, l[i])
			}
		}
		checkRemoveFace(t, l, 4, want)
	}
}

func TestMatchingPrefix(t *testing.T) {
	cases := []struct {
		routes, name, prefix string
		ok                   bool
	}{
		{"", "/a", "/", false}, {"", "/", "/", false}, {"/>1:3", "/", "/", true}, {"/>1:3", "/a/b/c/d/e/f", "/", true}, {"/a>1:3", "/a", "/a", true}, {"/a>1:3", "/a/b", "/a", true}, {"/a>1:3", "/", "/", false}, {"/a>1:3", "/b", "/", false}, {"/a>1:3", "/b/a", "/", false}, {"/a>1:3", "/aa", "/", false}, {"/aa>1:3", "/a", "/", false}, {"/a/b>1:3", "/a", "/", false}, {"/a/b>1:3", "/a/c", "/", false},
		// The prefix with the most parts, wherever it is, at whatever cost.
		{"/>1:0 /a>1:500 /a/b>1:1000", "/a/b/c", "/a/b", true}, {"/a/b>1:1000 /a>1:500 />1:0", "/a/b/c", "/a/b", true}, {"/a>1:500 /a/b>1:1000 />1:0", "/a/b/c", "/a/b", true}, {"/a>1:500 /a/b>1:1000 />1:0", "/a/b", "/a/b", true}, {"/a>1:500 /a/b>1:1000 />1:0", "/a/c", "/a", true}, {"/a>1:500 /a/b>1:1000 />1:0", "/a", "/a", true}, {"/a>1:500 /a/b>1:1000 />1:0", "/b/a", "/", true}, {"/a>1:500 /a/b>1:1000 />1:0", "/", "/", true}, {"/a>1:5 /a/b>1:5", "/b", "/", false},
		{"/a>1:5 /a/b/c>1:5 /b>2:1", "/a/b", "/a", true}, {"/a/b/c>1:5 /a>1:5", "/a/b/d", "/a", true}, {"/a/b/c/d/e/f>1:5 /a/b/c/d/e>1:5", "/a/b/c/d/e/f", "/a/b/c/d/e/f", true}, {"/a/b/c/d/e/f>1:5 /a/b/c/d/e>1:5", "/a/b/c/d/e/g", "/a/b/c/d/e", true},
		// More bytes are not more parts, nor is a prefix of which the name is only an ancestor.
		{"/abcdefgh>1:5 /a/b>2:5", "/a/b/c", "/a/b", true}, {"/abcdefgh>1:5 /abcdefgh/b>2:5", "/abcdefgh/b", "/abcdefgh/b", true}, {"/b/c/d>1:5 /a>2:5", "/a/b", "/a", true},
		// Routes and names that are not valid.
		{"/a>0:-5", "/a", "/a", true}, {"/A>1:5 /a>1:5", "/A/b", "/A", true}, {"/a/b/c/d/e/f/g>1:5 /a>1:5", "/a/b/c/d/e/f/g/h", "/a/b/c/d/e/f/g", true}, {"/a/>1:5 /a>1:5", "/a/", "/a/", true}, {"/a/>1:5 /a>1:5", "/a/b", "/a", true}, {"/a>1:5 /a>1:5 /a>2:1", "/a/b", "/a", true},
	}
	for _, c := range cases {
		checkPrefix(t, routesOf(c.routes), named(c.name), named(c.prefix), c.ok)
	}
	for _, none := range emptyRoutes {
		for _, n := range slices.Concat(emptyNames, notNames, wantNames) {
			checkPrefix(t, none, n, impl.Name{}, false)
			checkHops(t, none, n)
		}
	}
	for _, prefix := range emptyNames {
		for _, n := range slices.Concat(emptyNames, notNames, ascendingNames) {
			checkPrefix(t, []impl.Route{{Prefix: prefix, Face: 1}}, n, impl.Name{}, true)
			checkHops(t, []impl.Route{{Prefix: prefix, Face: 1}}, n, 1)
		}
	}
}

// Of the prefixes of a name, each set may have routes, in ascending and in descending order.
func TestMatchingPrefixOfEachSet(t *testing.T) {
	n := nameOf("a", "b", "c", "d", "e", "f")
	for set := range 128 {
		l := []impl.Route{}
		for length := range 7 {
			if set>>length%2 == 1 {
				l = append(l, impl.Route{Prefix: nameOf(n.Parts[:length]...), Face: 1 + length%6, Cost: length})
			}
		}
		for range 2 {
			for length := range 7 {
				longest := -1
				for at := range length + 1 {
					if set>>at%2 == 1 {
						longest = at
					}
				}
				checkPrefix(t, l, nameOf(n.Parts[:length]...), nameOf(n.Parts[:max(longest, 0)]...), longest >= 0)
				if longest >= 0 {
					checkHops(t, l, nameOf(n.Parts[:length]...), 1+longest%6)
				} else {
					checkHops(t, l, nameOf(n.Parts[:length]...))
				}
			}
			slices.Reverse(l)
		}
	}
}

func TestNextHops(t *testing.T) {
	cases := []struct {
		routes, name string
		hops         []int
	}{
		{"", "/a", nil}, {"/a>2:3", "/a", []int{2}}, {"/a>2:3", "/a/1", []int{2}}, {"/a>2:3", "/b", nil}, {"/a>2:3", "/", nil}, {"/>2:3", "/b", []int{2}}, {"/>2:3", "/", []int{2}},
		// By the cost, whatever the order of the routes and of the faces.
		{"/a>1:1 /a>2:2 /a>3:3", "/a", []int{1, 2, 3}}, {"/a>1:3 /a>2:2 /a>3:1", "/a", []int{3, 2, 1}}, {"/a>3:1 /a>1:3 /a>2:2", "/a/b", []int{3, 2, 1}}, {"/a>3:2 /a>1:3 /a>2:1", "/a", []int{2, 3, 1}}, {"/a>1:1000 /a>2:0", "/a", []int{2, 1}}, {"/a>1:10 /a>2:9", "/a", []int{2, 1}}, {"/a>1:100 /a>2:99 /a>3:1000", "/a", []int{2, 1, 3}},
		// For equal costs, by the face.
		{"/a>2:3 /a>1:3", "/a", []int{1, 2}}, {"/a>1:3 /a>2:3", "/a", []int{1, 2}}, {"/a>3:3 /a>2:3 /a>1:3", "/a", []int{1, 2, 3}}, {"/a>6:0 /a>5:0 /a>4:0 /a>3:0 /a>2:0 /a>1:0", "/a", []int{1, 2, 3, 4, 5, 6}}, {"/a>6:5 /a>1:7 /a>4:5 /a>2:3 /a>5:7 /a>3:3", "/a", []int{2, 3, 4, 6, 1, 5}}, {"/a>5:1000 /a>4:1000 /a>6:999", "/a", []int{6, 4, 5}},
		// Only the prefix with the most parts counts, even if another one costs less, is in front, or has more faces.
		{"/>1:0 /a>2:1000", "/a", []int{2}}, {"/a>2:1000 />1:0", "/a", []int{2}}, {"/>1:0 />3:0 /a>2:1000 />4:0", "/a/b", []int{2}}, {"/>1:0 />3:0 /a>2:1000 />4:0", "/b", []int{1, 3, 4}}, {"/a>1:5 /a/b>1:7 /a>2:4 /a/b>3:6", "/a/b/c", []int{3, 1}}, {"/a>1:5 /a/b>1:7 /a>2:4 /a/b>3:6", "/a/c", []int{2, 1}}, {"/a>1:5 /a/b>1:7 /a>2:4 /a/b>3:6", "/b", nil},
		// Routes with other prefixes, of as many parts, or which the name is no more than an ancestor of.
		{"/a>1:5 /b>2:4 /a>3:3 /c>4:2", "/a", []int{3, 1}}, {"/a>1:5 /aa>2:4 /a-a>3:3", "/aa", []int{2}}, {"/a/b>1:1 /a/b/c>2:1", "/a", nil}, {"/a>3:9 /a/b>1:1 /a/b/c>2:1", "/a", []int{3}},
		// Lists that are not valid: each of the routes has its face, and costs are compared as they are.
		{"/a>1:5 /a>1:3", "/a", []int{1, 1}}, {"/a>2:4 /a>1:5 /a>1:3", "/a", []int{1, 2, 1}}, {"/a>1:5 /a>1:5 /a>2:5 /a>0:5", "/a", []int{0, 1, 1, 2}}, {"/a>7:-1 /a>-1:1001 /a>0:0", "/a", []int{7, 0, -1}}, {"/A>1:1 /a>2:1", "/A", []int{1}}, {"/a>1:9223372036854775807 /a>2:-9223372036854775808 /a>3:0", "/a", []int{2, 3, 1}}, {"/a>9223372036854775807:5 /a>-9223372036854775808:5 /a>1:5", "/a", []int{math.MinInt, 1, math.MaxInt}},
	}
	for _, c := range cases {
		checkHops(t, routesOf(c.routes), named(c.name), c.hops...)
	}
}

// eachOrder calls f with the elements in each of their orders.
func eachOrder[T any](l []T, f func([]T)) {
	var order func(ordered []T, rest []T)
	order = func(ordered []T, rest []T) {
		if len(rest) == 0 {
			f(ordered)
		}
		for i, x := range rest {
			order(append(slices.Clone(ordered), x), slices.Delete(slices.Clone(rest), i, i+1))
		}
	}
	order(nil, l)
}

func TestNextHopsInEachOrder(t *testing.T) {
	cases := []struct {
		routes string
		hops   []int
	}{
		{"/a>1:5 /a>2:5 /a>3:5 /a>4:5 /a>5:5 /a>6:5", []int{1, 2, 3, 4, 5, 6}},
		{"/a>1:9 /a>2:8 /a>3:7 /a>4:6 /a>5:5 /a>6:4", []int{6, 5, 4, 3, 2, 1}},
		{"/a>1:2 /a>2:1 /a>3:2 /a>4:1 /a>5:2 /a>6:1", []int{2, 4, 6, 1, 3, 5}},
		{"/a>1:1 /a>2:1 /a>3:0 />6:0 /a/b/c>5:0 /b>4:0", []int{3, 1, 2}},
	}
	for _, c := range cases {
		eachOrder(routesOf(c.routes), func(l []impl.Route) {
			checkHops(t, l, nameOf("a", "b"), c.hops...)
			checkValidRoutes(t, l, true)
		})
	}
}

// All faces have one of three costs each.
func TestNextHopsOfEachCost(t *testing.T) {
	for _, digits := range sequences([]string{"0", "1", "2"}, 6) {
		l := []impl.Route{}
		for i, digit := range digits {
			l = append(l, impl.Route{Prefix: nameOf("a"), Face: 6 - i, Cost: integer(digit)})
		}
		checkForwarding(t, l, nameOf("a"))
		checkForwarding(t, append(l, routesOf("/a/b>3:1 />2:0")...), nameOf("a"))
		slices.Reverse(l)
		checkForwarding(t, l, nameOf("a", "c"))
	}
	for _, a := range slices.Concat(costs, notCosts, anyIntegers) {
		for _, b := range slices.Concat(costs, notCosts, anyIntegers) {
			l := []impl.Route{{Prefix: nameOf("a"), Face: 2, Cost: a}, {Prefix: nameOf("a"), Face: 1, Cost: b}}
			if a < b {
				checkHops(t, l, nameOf("a"), 2, 1)
			} else {
				checkHops(t, l, nameOf("a"), 1, 2)
			}
		}
	}
}

// The lists may be as long as they like: each position of them counts, also behind MaxRoutes.
func TestForwardingAtEachPosition(t *testing.T) {
	for _, length := range []int{1, 2, 23, 24, 25, 26, 60, 300} {
		l := numberedRoutes(length)
		for at := range length {
			n := nameOf(l[at].Prefix.Parts[0], "x")
			checkPrefix(t, l, n, l[at].Prefix, true)
			checkHops(t, l, n, l[at].Face)
		}
		checkForwarding(t, l, numberedName(length))
		shared := sharedRoutes(length)
		for at := range length {
			checkForwarding(t, shared, shared[at].Prefix)
		}
	}
	// A face that is in one list of 300 routes many times, for one prefix.
	l := []impl.Route{}
	for i := range 300 {
		l = append(l, impl.Route{Prefix: nameOf("a"), Face: i % 7, Cost: (i * 37) % 100})
	}
	checkForwarding(t, l, nameOf("a"))
}

func TestFormatRoutes(t *testing.T) {
	for _, none := range emptyRoutes {
		checkRoutesText(t, none, "-")
	}
	for _, s := range []string{
		"/a>2:3", "/>1:0", "/a>2:3 /a>1:3 />4:1", "/b>1:1 /a>2:2", "/a/b/c/d/e/f>6:1000 /abcdefgh>1:10", "/a>1:5 /a>1:5",
		// Lists that are not valid have a text, too.
		"/a>0:-1 /A>-7:1001", "/>0:0", "/a/>1:2 />3:4", "/a>-9223372036854775808:9223372036854775807 /a>9223372036854775807:-9223372036854775808",
	} {
		checkRoutesText(t, routesOf(s), s)
	}
	checkRoutesText(t, make([]impl.Route, 3), "/>0:0 />0:0 />0:0")
	checkRoutesText(t, []impl.Route{{Prefix: nameOf("a/b", ">"), Face: 1}, {Prefix: nameOf(""), Cost: 7}}, "/a/b/>>1:0 />0:7")
	for _, length := range []int{1, 23, 24, 25, 40} {
		checkRoutesText(t, numberedRoutes(length), model14Text(numberedRoutes(length)))
	}
	for _, n := range slices.Concat(anyIntegers, notFaces, notCosts) {
		l := []impl.Route{{Prefix: nameOf("a"), Face: n, Cost: 3}, {Prefix: nameOf("b", "c"), Face: 1, Cost: n}}
		checkRoutesText(t, l, fmt.Sprintf("/a>%d:3 /b/c>1:%d", n, n))
	}
	for _, l := range shortRoutes() {
		checkRoutesText(t, l, model14Text(l))
	}
}

func checkEqualRoutes(t *testing.T, a, b []impl.Route, want bool) {
	t.Helper()
	if impl.EqualRoutes(a, b) != want || impl.EqualRoutes(b, a) != want {
		t.Errorf("EqualRoutes of %s and %s = %v, %v, want %v", routesText(a), routesText(b), impl.EqualRoutes(a, b), impl.EqualRoutes(b, a), want)
	}
}

func TestEqualRoutes(t *testing.T) {
	for _, a := range emptyRoutes {
		for _, b := range emptyRoutes {
			checkEqualRoutes(t, a, b, true)
		}
		checkEqualRoutes(t, a, make([]impl.Route, 1), false)
		checkEqualRoutes(t, a, numberedRoutes(1), false)
	}
	for _, n := range emptyNames {
		for _, m := range emptyNames {
			checkEqualRoutes(t, []impl.Route{{Prefix: n, Face: 1}}, []impl.Route{{Prefix: m, Face: 1}}, true)
		}
		checkEqualRoutes(t, []impl.Route{{Prefix: n, Face: 1}}, []impl.Route{{Prefix: nameOf(""), Face: 1}}, false)
	}
	// The order matters, and how often a route occurs.
	checkEqualRoutes(t, routesOf("/a>1:3 /b>1:3"), routesOf("/b>1:3 /a>1:3"), false)
	checkEqualRoutes(t, routesOf("/a>1:3 /a>1:3"), routesOf("/a>1:3"), false)
	checkEqualRoutes(t, routesOf("/a>1:3 /a>1:3 /b>1:3"), routesOf("/a>1:3 /b>1:3 /b>1:3"), false)
	checkEqualRoutes(t, routesOf("/a>1:3"), routesOf("/a>3:1"), false)
	for _, a := range slices.Concat(anyIntegers, notFaces, notCosts) {
		for _, b := range slices.Concat(anyIntegers, notFaces, notCosts) {
			checkEqualRoutes(t, []impl.Route{{Face: a}}, []impl.Route{{Face: b}}, a == b)
			checkEqualRoutes(t, []impl.Route{{Cost: a}}, []impl.Route{{Cost: b}}, a == b)
		}
	}
}

func TestEqualRoutesOfShortLists(t *testing.T) {
	all := shortRoutes()
	for i, a := range all {
		checkEqualRoutes(t, a, guardRoutes(a).slice, true)
		for j, b := range all {
			if got := impl.EqualRoutes(a, b); got != (i == j) {
				t.Fatalf("EqualRoutes(%s, %s) = %v", routesText(a), routesText(b), got)
			}
		}
	}
}

func TestEqualRoutesOfOneChange(t *testing.T) {
	changes := map[string]func(r *impl.Route){
		"the prefix":    func(r *impl.Route) { r.Prefix = numberedName(77) },
		"a part more":   func(r *impl.Route) { r.Prefix = nameOf(r.Prefix.Parts[0], "a") },
		"a part less":   func(r *impl.Route) { r.Prefix = nameOf() },
		"the face":      func(r *impl.Route) { r.Face++ },
		"a lower face":  func(r *impl.Route) { r.Face-- },
		"the cost":      func(r *impl.Route) { r.Cost++ },
		"a lower cost":  func(r *impl.Route) { r.Cost-- },
		"the other way": func(r *impl.Route) { r.Cost = -r.Cost },
	}
	for length := 1; length <= 26; length++ {
		checkEqualRoutes(t, numberedRoutes(length), numberedRoutes(length), true)
		for at := range length {
			for what, change := range changes {
				l := numberedRoutes(length)
				change(&l[at])
				if impl.EqualRoutes(numberedRoutes(length), l) || impl.EqualRoutes(l, numberedRoutes(length)) {
					t.Errorf("EqualRoutes of %d routes, with a change of %s at %d, = true", length, what, at)
				}
			}
			checkEqualRoutes(t, numberedRoutes(length), slices.Delete(numberedRoutes(length), at, at+1), false)
		}
	}
}

func TestShortRoutesAgainstTheModel(t *testing.T) {
	names := namesOf("/", "/a", "/a/b", "/a/b/c", "/a/c", "/b", "/A", "/A/b", "/aa")
	for _, l := range shortRoutes() {
		for _, n := range names {
			checkForwarding(t, l, n)
		}
		for face := -1; face <= 7; face++ {
			checkRemoveFace(t, l, face, model14Remove(l, face))
		}
	}
}

// Names that are not valid may have the same text, and are different all the same.
func TestRoutesOfPrefixesWithTheSameText(t *testing.T) {
	l := []impl.Route{}
	for i, n := range sameTexts {
		l = append(l, impl.Route{Prefix: n, Face: 1, Cost: i})
	}
	for i, n := range sameTexts {
		checkForwarding(t, l, n)
		checkForwarding(t, l[i:], n)
		checkForwarding(t, l[:i], n)
		for _, m := range sameTexts {
			pair := []impl.Route{{Prefix: n, Face: 1, Cost: 2}, {Prefix: m, Face: 2, Cost: 1}}
			checkForwarding(t, pair, n)
			pair[1].Face = 1
			checkValidRoutes(t, pair, model14Valid(pair))
			checkAdding(t, pair[:1], pair[1])
			checkAdding(t, pair[1:], pair[0])
		}
	}
}

// Promise 14: whatever routes were added and removed, a name is forwarded by its longest prefix, through the nearest face first.
func TestANameIsForwardedByItsLongestPrefixThroughTheNearestFaceFirst(t *testing.T) {
	texts := []string{"/", "/a", "/a/a", "/a/b", "/a/a/a", "/b", "/b/a"}
	names := []impl.Name{}
	for _, parts := range sequences([]string{"a", "b"}, 4) {
		names = append(names, nameOf(parts...))
	}
	l := []impl.Route{}
	// kept has the costs of the faces of each prefix, by its text.
	kept, count := map[string]map[int]int{}, 0
	number := uint32(14)
	refused, removed := 0, 0
	for step := range 4000 {
		number = number*1664525 + 1013904223
		text, face, cost := texts[int(number>>8)%len(texts)], 1+int(number>>20)%6, int(number>>16)%4
		if number>>24%20 == 0 {
			l = impl.RemoveFace(l, face)
			for _, faces := range kept {
				if _, ok := faces[face]; ok {
					delete(faces, face)
					count--
					removed++
				}
			}
		} else {
			_, isKept := kept[text][face]
			longer, ok := impl.AddRoute(l, impl.Route{Prefix: named(text), Face: face, Cost: cost})
			if want := isKept || count < 24; ok != want {
				t.Fatalf("step %d: AddRoute of %s>%d:%d to %s = %v", step, text, face, cost, routesText(l), ok)
			}
			if l = longer; !ok {
				refused++
			} else {
				if kept[text] == nil {
					kept[text] = map[int]int{}
				}
				if kept[text][face] = cost; !isKept {
					count++
				}
			}
		}
		if !impl.ValidRoutes(l) || len(l) != count {
			t.Fatalf("after step %d, the routes are %s", step, routesText(l))
		}
		for _, n := range names {
			checkForwarded(t, l, kept, n)
		}
		if t.Failed() {
			t.Fatalf("after step %d", step)
		}
	}
	if refused == 0 || removed == 0 {
		t.Errorf("%d were refused, and %d removed", refused, removed)
	}
}

// checkForwarded holds the hops of a name against the faces that are kept for its longest prefix.
func checkForwarded(t *testing.T, l []impl.Route, kept map[string]map[int]int, n impl.Name) {
	t.Helper()
	length := len(n.Parts)
	for length >= 0 && len(kept["/"+strings.Join(n.Parts[:length], "/")]) == 0 {
		length--
	}
	prefix, ok := impl.MatchingPrefix(l, n)
	hops := impl.NextHops(l, n)
	if length < 0 {
		if ok || len(prefix.Parts) != 0 || len(hops) != 0 {
			t.Errorf("%q, which is under no prefix of %s, has the prefix %q and the hops %v", n.Parts, routesText(l), prefix.Parts, hops)
		}
		return
	}
	faces := kept["/"+strings.Join(n.Parts[:length], "/")]
	if !ok || !slices.Equal(prefix.Parts, n.Parts[:length]) || len(hops) != len(faces) {
		t.Errorf("%q has in %s the prefix %q, %v, and the hops %v", n.Parts, routesText(l), prefix.Parts, ok, hops)
		return
	}
	for i, face := range hops {
		cost, isKept := faces[face]
		if !isKept || i > 0 && (cost < faces[hops[i-1]] || cost == faces[hops[i-1]] && face <= hops[i-1]) {
			t.Errorf("%q has in %s the hops %v", n.Parts, routesText(l), hops)
		}
	}
}

// A long series of all operations, also with routes that are not valid, leaves what the model has, and always a valid list.
func TestSeriesOfOperationsOnRoutes(t *testing.T) {
	l, want := []impl.Route{}, []impl.Route{}
	number := uint32(41)
	for step := range 20000 {
		number = number*1664525 + 1013904223
		face := int(number>>24)%9 - 1
		n := numberedName(int(number>>16) % 9)
		n.Parts = slices.Concat([]string{"a"}, n.Parts, []string{"b"})[int(number>>12)%2 : 1+int(number>>13)%3]
		if number>>9%24 == 0 {
			l, want = impl.RemoveFace(l, face), model14Remove(want, face)
		} else {
			r := impl.Route{Prefix: n, Face: face, Cost: int(number>>20)%1100 - 40}
			var ok, wantOK bool
			l, ok = impl.AddRoute(l, r)
			if want, wantOK = model14Add(want, r); ok != wantOK {
				t.Fatalf("AddRoute in step %d = %v", step, ok)
			}
		}
		if routesText(l) != routesText(want) || !impl.EqualRoutes(l, want) {
			t.Fatalf("the routes after step %d are %s, want %s", step, routesText(l), routesText(want))
		}
		checkForwarding(t, l, n)
		checkRoutesText(t, l, model14Text(want))
		checkValidRoutes(t, l, true)
		if t.Failed() {
			return
		}
	}
}

func guardRoutes(l []impl.Route) guardedList[impl.Route] {
	return guardList(l, routesOf("/q>1:3 /a>2:1 />1:0 /A>0:-5 /n000>1:7 /a/b>3:0 /n024>6:1"), func(r *impl.Route) []*[]string { return []*[]string{&r.Prefix.Parts} }, routesText)
}

// scribbleRoutes changes all memory of a list.
func scribbleRoutes(l []impl.Route) {
	whole := l[:cap(l)]
	for i := range whole {
		scribbleParts(whole[i].Prefix)
		whole[i] = impl.Route{Prefix: nameOf("changed"), Face: -77, Cost: -77}
	}
}

// memoryRoutes are lists, valid or not; memoryAdded are routes of which some are in some of them, and some are not valid.
func memoryRoutes() [][]impl.Route {
	return [][]impl.Route{
		nil, {}, routesOf("/>1:5"), routesOf("/a>2:3"), routesOf("/a>2:3 /a>1:3 />4:1"), routesOf("/a/b>3:9 /a>2:0 /a/b>1:9 />2:2"), routesOf("/a>2:3 /a>2:3"), routesOf("/A>1:1 /a>0:1 /a>2:1001"), routesOf("/a/b/c/d/e/f/g>2:1 /a/b/c/d/e/f>2:1"),
		numberedRoutes(23), numberedRoutes(24), numberedRoutes(25), sharedRoutes(24), sharedRoutes(40),
	}
}

func memoryAdded() []impl.Route {
	return append(routesOf("/>1:5 />2:7 /a>2:9 /a>3:3 /a/b>1:1 /c>6:1000 /n000>1:77 /n024>1:5 /a/b/c/d/e/f>2:7 /a>2:1001 /a>0:1 /A>1:1 /a/b/c/d/e/f/g>2:1"), impl.Route{})
}

func TestRoutesAreLeftAsTheyAre(t *testing.T) {
	for _, l := range memoryRoutes() {
		for _, r := range memoryAdded() {
			g, other, parts := guardRoutes(l), guardRoutes(l), guardWith(r.Prefix.Parts, spareParts)
			r.Prefix = impl.Name{Parts: parts.slice}
			calls := []struct {
				what string
				call func()
			}{
				{"ValidRoutes", func() { impl.ValidRoutes(g.slice) }},
				{"AddRoute", func() { impl.AddRoute(g.slice, r) }},
				{"RemoveFace", func() { impl.RemoveFace(g.slice, r.Face) }},
				{"RemoveFace, another one", func() { impl.RemoveFace(g.slice, r.Face+1) }},
				{"MatchingPrefix", func() { impl.MatchingPrefix(g.slice, r.Prefix) }},
				{"NextHops", func() { impl.NextHops(g.slice, r.Prefix) }},
				{"FormatRoutes", func() { impl.FormatRoutes(g.slice) }},
				{"EqualRoutes", func() { impl.EqualRoutes(g.slice, other.slice) }},
			}
			for _, c := range calls {
				c.call()
				g.check(t, c.what)
				other.check(t, c.what+", the second list")
				parts.check(t, c.what+", the prefix")
			}
		}
	}
}

// Each of these returns routes; the name that MatchingPrefix returns is taken for the prefix of one.
var routeResults = []struct {
	what string
	call func(l []impl.Route, r impl.Route) []impl.Route
}{
	{"AddRoute", func(l []impl.Route, r impl.Route) []impl.Route {
		result, _ := impl.AddRoute(l, r)
		return result
	}},
	{"RemoveFace", func(l []impl.Route, r impl.Route) []impl.Route { return impl.RemoveFace(l, r.Face) }},
	{"RemoveFace, another one", func(l []impl.Route, r impl.Route) []impl.Route { return impl.RemoveFace(l, 77) }},
	{"MatchingPrefix", func(l []impl.Route, r impl.Route) []impl.Route {
		n, _ := impl.MatchingPrefix(l, r.Prefix)
		return []impl.Route{{Prefix: n}}
	}},
}

func TestRoutesAreNewMemory(t *testing.T) {
	for _, l := range memoryRoutes() {
		for _, r := range memoryAdded() {
			for _, f := range routeResults {
				g, parts := guardRoutes(l), guardWith(r.Prefix.Parts, spareParts)
				guardedRoute := r
				guardedRoute.Prefix = impl.Name{Parts: parts.slice}
				first, second := f.call(g.slice, guardedRoute), f.call(g.slice, guardedRoute)
				want := routesText(second)
				scribbleRoutes(first)
				g.check(t, f.what+", its result changed")
				parts.check(t, f.what+", its result changed, the prefix")
				scribbleRoutes(g.slice)
				scribbleParts(guardedRoute.Prefix)
				if routesText(second) != want {
					t.Errorf("%s of %s, %s shares memory with its arguments or with another result", f.what, routesText(l), routesText([]impl.Route{r}))
				}
			}
		}
	}
}

func TestNextHopsAreNewMemory(t *testing.T) {
	for _, l := range memoryRoutes() {
		for _, r := range memoryAdded() {
			first, second := impl.NextHops(l, r.Prefix), impl.NextHops(l, r.Prefix)
			scribble(first)
			if want := model14Hops(l, r.Prefix); !slices.Equal(second, want) {
				t.Errorf("two results of NextHops(%s, %q) share memory: %v, want %v", routesText(l), r.Prefix.Parts, second, want)
			}
		}
	}
}

// The prefixes of a result are apart from each other, also where those of the argument are parts of one array.
func TestPrefixesOfRoutesAreApart(t *testing.T) {
	parts := []string{"a", "b", "c", "d", "e", "f"}
	l := []impl.Route{}
	for i := range 5 {
		l = append(l, impl.Route{Prefix: nameOf(parts[:i]...), Face: 1 + i%2, Cost: i})
	}
	for _, r := range []impl.Route{{Prefix: nameOf(parts[:1]...), Face: 2, Cost: 9}, {Prefix: nameOf(parts[:2]...), Face: 3, Cost: 9}, {Prefix: nameOf(parts[1:]...), Face: 1, Cost: 9}, {Prefix: nameOf(parts...), Face: 0}} {
		for _, f := range routeResults {
			for at := range f.call(l, r) {
				result := f.call(l, r)
				others := routesText(result[:at]) + routesText(result[at+1:])
				scribbleParts(result[at].Prefix)
				if routesText(result[:at])+routesText(result[at+1:]) != others {
					t.Errorf("%s: the prefix at %d shares memory with others", f.what, at)
				}
			}
		}
	}
	if !slices.Equal(parts, []string{"a", "b", "c", "d", "e", "f"}) {
		t.Errorf("the array of the prefixes is %q", parts)
	}
}

// What lies behind the last route, or behind the parts of a prefix or a name, counts for nothing.
func TestSpareMemoryOfRoutesIsNotRead(t *testing.T) {
	l := routesOf("/a>1:3 /a>2:1 /b>1:1 /A>0:-1 /a/b>1:1 />5:0")[:1]
	l[0].Prefix.Parts = []string{"a", "b", "C"}[:1]
	same := routesOf("/a>1:3")
	checkValidRoutes(t, l, true)
	checkEqualRoutes(t, l, same, true)
	checkEqualRoutes(t, l, routesOf("/a>1:3 /a>2:1"), false)
	checkRoutesText(t, l, "/a>1:3")
	n := impl.Name{Parts: []string{"a", "b", "C"}[:1]}
	checkPrefix(t, l, n, nameOf("a"), true)
	checkHops(t, l, n, 1)
	checkHops(t, l, nameOf("a", "b", "C"), 1)
	checkPrefix(t, l, nameOf("a", "b"), nameOf("a"), true)
	for _, text := range []string{"/", "/b", "/A"} {
		checkPrefix(t, l, named(text), impl.Name{}, false)
		checkHops(t, l, named(text))
	}
	checkPrefix(t, routesOf("/a/b>1:3"), n, impl.Name{}, false)
	checkAddRoute(t, l, routeOf("/a>2:7"), routesOf("/a>1:3 /a>2:7"), true)
	checkAddRoute(t, l, impl.Route{Prefix: n, Face: 1, Cost: 7}, routesOf("/a>1:7"), true)
	checkAddRoute(t, l, routeOf("/A>2:7"), same, false)
	checkRemoveFace(t, l, 1, nil)
	checkRemoveFace(t, l, 2, same)
	checkAddRoute(t, numberedRoutes(40)[:23], routeOf("/a>2:7"), append(numberedRoutes(23), routeOf("/a>2:7")), true)
	checkAddRoute(t, numberedRoutes(40)[:24], routeOf("/a>2:7"), numberedRoutes(24), false)
	checkValidRoutes(t, numberedRoutes(40)[:24], true)
}
