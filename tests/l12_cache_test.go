package tests

import (
	"bytes"
	"fmt"
	"math"
	"slices"
	"strconv"
	"strings"
	"testing"

	"loop.example/g00507/impl"
)

// cached makes an entry of a text like "/a=x@3~50": data with the name /a and the content "x", last used at 3 and fresh until 50. Without these, the content is "hi", the times are 0 and 500.
func cached(s string) impl.CacheEntry {
	s, until, isUntil := strings.Cut(s, "~")
	s, used, isUsed := strings.Cut(s, "@")
	name, content, isContent := strings.Cut(s, "=")
	e := impl.CacheEntry{Data: dataOf(name, "hi", "/a/key", 500, 17)}
	if isUntil {
		e.Data.FreshUntil = integer(until)
	}
	if isUsed {
		e.LastUsed = integer(used)
	}
	if isContent {
		e.Data.Content = []byte(content)
	}
	return e
}

func integer(s string) int {
	n, err := strconv.Atoi(s)
	if err != nil {
		panic(err)
	}
	return n
}

func storeOf(capacity int, texts ...string) impl.ContentStore {
	c := impl.ContentStore{Capacity: capacity}
	for _, s := range texts {
		c.Entries = append(c.Entries, cached(s))
	}
	return c
}

// numberedStore has entries with the names /n000, /n001 and so on, each last used at another time; the first one is the one used least recently.
func numberedStore(capacity int, length int) impl.ContentStore {
	c := impl.ContentStore{Capacity: capacity}
	for i := range length {
		c.Entries = append(c.Entries, cached(fmt.Sprintf("/n%03d=%d@%d", i, i, 10+i)))
	}
	return c
}

// storeText is the same for equal stores only.
func storeText(c impl.ContentStore) string {
	return fmt.Sprintf("%d: %s", c.Capacity, entriesText(c.Entries))
}

func entriesText(l []impl.CacheEntry) string {
	text := ""
	for _, e := range l {
		text += fmt.Sprintf("%s @%d; ", dataText(e.Data), e.LastUsed)
	}
	return text
}

// usedTexts are the names of a store, in order, and when they were last used.
func usedTexts(c impl.ContentStore) []string {
	texts := []string{}
	for _, e := range c.Entries {
		texts = append(texts, fmt.Sprintf("/%s@%d", strings.Join(e.Data.Name.Parts, "/"), e.LastUsed))
	}
	return texts
}

var (
	emptyEntries = [][]impl.CacheEntry{nil, {}, numberedStore(2, 2).Entries[:0]}

	// Capacities of stores, valid or not.
	capacities    = []int{0, 1, 2, 3, 4, 5, 6, 7, 8}
	notCapacities = []int{-1, -2, -8, -9, -256, -1 << 32, math.MinInt, math.MinInt + 1, 9, 10, 16, 256, 256 + 8, 1 << 32, 1<<32 + 1, impl.MaxInt, math.MaxInt - 1, math.MaxInt}

	// Times before, between and behind those of the entries.
	cacheTimes = []int{math.MinInt, math.MinInt + 1, -500, -1, 0, 1, 2, 3, 49, 50, 51, 499, 500, 501, impl.MaxTime, impl.MaxTime + 1, math.MaxInt - 1, math.MaxInt}
)

// shortStores are all stores of up to three of a few entries, with names that occur twice and without, valid or not, of several capacities.
func shortStores() []impl.ContentStore {
	all := []impl.ContentStore{}
	for _, texts := range sequences([]string{"/a@3", "/a=x@1~50", "/b@2~49", "/b@3", "/c/d@1", "/A@2"}, 3) {
		for _, capacity := range []int{-1, 0, 1, 2, 3, 4, 9} {
			all = append(all, storeOf(capacity, texts...))
		}
	}
	return all
}

// The model follows the document's words without the program.
func model12Valid(c impl.ContentStore) bool {
	names := map[string]bool{}
	for _, e := range c.Entries {
		names[fmt.Sprintf("%q", e.Data.Name.Parts)] = true
		if !wantValidData(e.Data) {
			return false
		}
	}
	return c.Capacity >= 0 && c.Capacity <= 8 && len(c.Entries) <= c.Capacity && len(names) == len(c.Entries)
}

func model12Cache(c impl.ContentStore, x impl.Data, now int) impl.ContentStore {
	if c.Capacity < 1 || !wantValidData(x) {
		return c
	}
	others := []impl.CacheEntry{}
	for _, e := range c.Entries {
		if !slices.Equal(e.Data.Name.Parts, x.Name.Parts) {
			others = append(others, e)
		}
	}
	if len(others) >= c.Capacity {
		times := []int{}
		for _, e := range others {
			times = append(times, e.LastUsed)
		}
		first := slices.Index(times, slices.Min(times))
		others = slices.Concat(others[:first], others[first+1:])
	}
	return impl.ContentStore{Capacity: c.Capacity, Entries: append(others, impl.CacheEntry{Data: x, LastUsed: now})}
}

func model12Lookup(c impl.ContentStore, n impl.Name, now int) (impl.Data, bool) {
	for _, e := range c.Entries {
		if slices.Equal(e.Data.Name.Parts, n.Parts) && e.Data.FreshUntil >= now {
			return e.Data, true
		}
	}
	return impl.Data{}, false
}

func model12Touch(c impl.ContentStore, n impl.Name, now int) impl.ContentStore {
	c.Entries = slices.Clone(c.Entries)
	for i, e := range c.Entries {
		if slices.Equal(e.Data.Name.Parts, n.Parts) {
			c.Entries[i].LastUsed = now
			break
		}
	}
	return c
}

func model12Evict(c impl.ContentStore, now int) impl.ContentStore {
	fresh := []impl.CacheEntry{}
	for _, e := range c.Entries {
		if e.Data.FreshUntil >= now {
			fresh = append(fresh, e)
		}
	}
	c.Entries = fresh
	return c
}

func checkStore(t *testing.T, what string, got impl.ContentStore, want impl.ContentStore) {
	t.Helper()
	if storeText(got) != storeText(want) {
		t.Errorf("%s = %s, want %s", what, storeText(got), storeText(want))
	}
}

func checkCache(t *testing.T, c impl.ContentStore, x impl.Data, now int, want impl.ContentStore) {
	t.Helper()
	checkStore(t, fmt.Sprintf("CacheData(%s, %s, %d)", storeText(c), dataText(x), now), impl.CacheData(c, x, now), want)
}

func checkLookup(t *testing.T, c impl.ContentStore, n impl.Name, now int, want impl.Data, wantOK bool) {
	t.Helper()
	if got, ok := impl.CacheLookup(c, n, now); dataText(got) != dataText(want) || ok != wantOK {
		t.Errorf("CacheLookup(%s, %q, %d) = %s, %v, want %s, %v", storeText(c), n.Parts, now, dataText(got), ok, dataText(want), wantOK)
	}
}

func checkTouch(t *testing.T, c impl.ContentStore, n impl.Name, now int, want impl.ContentStore) {
	t.Helper()
	checkStore(t, fmt.Sprintf("Touch(%s, %q, %d)", storeText(c), n.Parts, now), impl.Touch(c, n, now), want)
}

func checkEvict(t *testing.T, c impl.ContentStore, now int, want impl.ContentStore) {
	t.Helper()
	checkStore(t, fmt.Sprintf("EvictStale(%s, %d)", storeText(c), now), impl.EvictStale(c, now), want)
}

func checkValidStore(t *testing.T, c impl.ContentStore, want bool) {
	t.Helper()
	if got := impl.ValidContentStore(c); got != want {
		t.Errorf("ValidContentStore(%s) = %v", storeText(c), got)
	}
}

func TestTheLimitOfTheCacheIsThatOfTheDocument(t *testing.T) {
	if impl.MaxCache != 8 {
		t.Errorf("MaxCache = %d", impl.MaxCache)
	}
}

func TestNewContentStore(t *testing.T) {
	check := func(capacity int, want int) {
		c := impl.NewContentStore(capacity)
		checkStore(t, fmt.Sprintf("NewContentStore(%d)", capacity), c, storeOf(want))
		checkValidStore(t, c, true)
	}
	for _, capacity := range capacities {
		check(capacity, capacity)
	}
	for _, capacity := range slices.Concat(notCapacities, anyIntegers) {
		if capacity < 0 || capacity > 8 {
			check(capacity, 0)
		}
	}
	for capacity := 9; capacity <= 600; capacity++ {
		check(capacity, 0)
		check(-capacity, 0)
	}
}

func TestValidContentStore(t *testing.T) {
	for capacity := -20; capacity <= 20; capacity++ {
		for _, none := range emptyEntries {
			checkValidStore(t, impl.ContentStore{Capacity: capacity, Entries: none}, capacity >= 0 && capacity <= 8)
		}
		for length := range 20 {
			checkValidStore(t, numberedStore(capacity, length), capacity >= 0 && capacity <= 8 && length <= capacity)
		}
	}
	for _, capacity := range notCapacities {
		for _, length := range []int{0, 1, 2, 7, 8, 9, 256 + 1} {
			checkValidStore(t, numberedStore(capacity, length), false)
		}
	}
	for _, length := range []int{255, 256, 257, 256 + 8, 1000} {
		for _, capacity := range capacities {
			checkValidStore(t, numberedStore(capacity, length), false)
		}
	}
	checkValidStore(t, impl.ContentStore{}, true)
	for _, c := range shortStores() {
		checkValidStore(t, c, model12Valid(c))
	}
}

// Neither the time when data were last used nor whether they are fresh matters; nor does it when several have the same times or contents.
func TestValidContentStoreOfAnyTimes(t *testing.T) {
	for _, used := range slices.Concat(cacheTimes, anyIntegers) {
		c := numberedStore(8, 8)
		for i := range c.Entries {
			checkValidStore(t, c, true)
			c.Entries[i].LastUsed = used
		}
		checkValidStore(t, c, true)
	}
	checkValidStore(t, storeOf(3, "/a=x@1~0", "/b=x@1~0", "/c=x@1~0"), true)
}

func TestValidContentStoreOfEachData(t *testing.T) {
	for i, x := range validDatas() {
		if i%7 == 0 {
			checkValidStore(t, impl.ContentStore{Capacity: 1, Entries: []impl.CacheEntry{{Data: x}}}, true)
			c := numberedStore(8, 8)
			c.Entries[i%8].Data = x
			checkValidStore(t, c, true)
		}
	}
	for _, x := range invalidDatas() {
		for length := 1; length <= 8; length++ {
			for at := range length {
				c := numberedStore(8, length)
				c.Entries[at].Data = x
				checkValidStore(t, c, false)
			}
		}
	}
}

// No name occurs twice, wherever, whatever else is different; a name that another one is under is another name.
func TestValidContentStoreOfEachName(t *testing.T) {
	for length := 2; length <= 8; length++ {
		for i := range length {
			for j := range length {
				c := numberedStore(length, length)
				c.Entries[i].Data.Name = numberedName(j)
				checkValidStore(t, c, i == j)
			}
		}
	}
	for _, texts := range [][]string{{"/a", "/a"}, {"/a=x@1~2", "/a=y@3~4"}, {"/a/b", "/b", "/a/b=x"}} {
		checkValidStore(t, storeOf(8, texts...), false)
	}
	checkValidStore(t, storeOf(8, "/a", "/a/a", "/a/a/a", "/aa", "/aa/a", "/b", "/a/b", "/b/a"), true)
	checkValidStore(t, storeOf(2, "/b", "/a"), true)
}

func TestCacheData(t *testing.T) {
	cases := []struct {
		capacity int
		before   []string
		x        string
		now      int
		after    []string
	}{
		{1, nil, "/a", 5, []string{"/a@5"}}, {8, nil, "/a", 5, []string{"/a@5"}}, {2, []string{"/a@1"}, "/b", 5, []string{"/a@1", "/b@5"}}, {3, []string{"/c@9", "/a@1"}, "/b", 5, []string{"/c@9", "/a@1", "/b@5"}},
		// Into a full store: the one used least recently makes room, wherever it is.
		{1, []string{"/a@1"}, "/b", 5, []string{"/b@5"}}, {2, []string{"/a@1", "/b@2"}, "/c", 5, []string{"/b@2", "/c@5"}}, {2, []string{"/a@2", "/b@1"}, "/c", 5, []string{"/a@2", "/c@5"}},
		{3, []string{"/a@2", "/b@1", "/c@3"}, "/d", 5, []string{"/a@2", "/c@3", "/d@5"}}, {3, []string{"/c@3", "/b@2", "/a@1"}, "/d", 5, []string{"/c@3", "/b@2", "/d@5"}},
		// The first one of several.
		{2, []string{"/a@1", "/b@1"}, "/c", 5, []string{"/b@1", "/c@5"}}, {3, []string{"/a@2", "/b@1", "/c@1"}, "/d", 5, []string{"/a@2", "/c@1", "/d@5"}}, {3, []string{"/c@1", "/b@1", "/a@1"}, "/d", 1, []string{"/b@1", "/a@1", "/d@1"}},
		{4, []string{"/a@0", "/b@-1", "/c@0", "/d@-1"}, "/e", 0, []string{"/a@0", "/c@0", "/d@-1", "/e@0"}},
		// A name that is present makes room itself, and comes to the end; it is used least recently, or not.
		{1, []string{"/a@1"}, "/a=x", 5, []string{"/a=x@5"}}, {2, []string{"/a@1", "/b@2"}, "/a=x", 5, []string{"/b@2", "/a=x@5"}}, {2, []string{"/a@1", "/b@2"}, "/b=x", 5, []string{"/a@1", "/b=x@5"}}, {3, []string{"/a@3", "/b@2", "/c@1"}, "/a=x", 5, []string{"/b@2", "/c@1", "/a=x@5"}},
		{3, []string{"/a@1", "/b@2"}, "/a=x", 5, []string{"/b@2", "/a=x@5"}}, {8, []string{"/a@1"}, "/a", 1, []string{"/a@1"}},
		// A time before those of the entries is taken as it is; what is new never makes room for itself.
		{2, []string{"/a@6"}, "/b", -5, []string{"/a@6", "/b@-5"}}, {1, []string{"/a@6"}, "/b", -5, []string{"/b@-5"}}, {2, []string{"/a@7", "/b@6"}, "/c", 5, []string{"/a@7", "/c@5"}}, {2, []string{"/a@7", "/b@6"}, "/b=x", 5, []string{"/a@7", "/b=x@5"}},
		// Data are cached whether they are fresh or not, and those that are not fresh do not make room first.
		{2, []string{"/a@1", "/b@2~0"}, "/c~0", 5, []string{"/b@2~0", "/c@5~0"}}, {1, []string{"/a@1~900"}, "/a=x~3", 5, []string{"/a=x@5~3"}},
		// Neither a prefix nor a name under it is the same name.
		{3, []string{"/a@1", "/a/b@2", "/a/b/c@3"}, "/a/b=x", 5, []string{"/a@1", "/a/b/c@3", "/a/b=x@5"}}, {2, []string{"/a@1", "/a/b@2"}, "/a/b/c", 5, []string{"/a/b@2", "/a/b/c@5"}},
		// In a store that is not valid, all with the name are removed, but only one of the others, also if there are more than Capacity.
		{3, []string{"/a@1", "/b@2", "/a=y@3"}, "/a=x", 5, []string{"/b@2", "/a=x@5"}}, {2, []string{"/a@1", "/a=y@3", "/a=z@2"}, "/a=x", 5, []string{"/a=x@5"}}, {1, []string{"/b@3", "/a@1", "/b@2", "/a@1"}, "/a=x", 5, []string{"/b@3", "/a=x@5"}},
		{1, []string{"/a@1", "/b@2", "/c@3"}, "/d", 5, []string{"/b@2", "/c@3", "/d@5"}}, {2, []string{"/c@3", "/b@2", "/a@1", "/a@1"}, "/d", 5, []string{"/c@3", "/b@2", "/a@1", "/d@5"}}, {2, []string{"/a@1", "/a@1"}, "/b", 5, []string{"/a@1", "/b@5"}},
		{2, []string{"/A@1", "/b@2"}, "/c", 5, []string{"/b@2", "/c@5"}}, {2, []string{"/b@1", "/A@2"}, "/c", 5, []string{"/A@2", "/c@5"}},
	}
	for _, c := range cases {
		checkCache(t, storeOf(c.capacity, c.before...), cached(c.x).Data, c.now, storeOf(c.capacity, c.after...))
	}
}

// Without a capacity of at least 1, nothing is cached, whatever the store has; one above the limit is a capacity all the same.
func TestCacheDataOfEachCapacity(t *testing.T) {
	for _, capacity := range append(slices.Clone(capacities), notCapacities...) {
		for length := range 12 {
			c := numberedStore(capacity, length)
			for _, text := range []string{"/z@5", "/n000=x@5", "/n007=x@5", "/n010=x@5"} {
				e := cached(text)
				want := model12Cache(c, e.Data, e.LastUsed)
				checkCache(t, c, e.Data, e.LastUsed, want)
				if capacity < 1 && storeText(want) != storeText(c) {
					t.Fatalf("the model caches %s in %s", text, storeText(c))
				}
			}
		}
		for _, none := range emptyEntries {
			want := storeOf(capacity)
			if capacity >= 1 {
				want = storeOf(capacity, "/a@5")
			}
			checkCache(t, impl.ContentStore{Capacity: capacity, Entries: none}, cached("/a").Data, 5, want)
		}
	}
}

// Capacity 0 is a valid capacity: the store stays empty and valid, and has nothing to find.
func TestCapacityOfNothing(t *testing.T) {
	c := impl.NewContentStore(0)
	for i := range 20 {
		x := numberedStore(1, i+1).Entries[i].Data
		c = impl.Touch(impl.EvictStale(impl.CacheData(c, x, i), i), x.Name, i)
		checkStore(t, "a store with the capacity 0", c, impl.ContentStore{})
		checkValidStore(t, c, true)
		checkLookup(t, c, x.Name, 0, impl.Data{}, false)
	}
	// A store without a capacity that has entries is not valid; they stay as they are.
	c = numberedStore(0, 3)
	checkCache(t, c, c.Entries[0].Data, 50, numberedStore(0, 3))
	checkLookup(t, c, numberedName(1), 0, c.Entries[1].Data, true)
}

func TestCacheDataOfInvalidData(t *testing.T) {
	for _, x := range invalidDatas() {
		for _, capacity := range []int{-1, 0, 1, 3, 8, 9} {
			for _, length := range []int{0, 1, 3, 8} {
				c := numberedStore(capacity, length)
				checkCache(t, c, x, 50, numberedStore(capacity, length))
				// The name is present, and is neither removed nor used.
				if length > 0 {
					c.Entries[0].Data.Name = x.Name
					checkCache(t, c, x, 50, c)
				}
			}
		}
	}
}

func TestCacheDataOfValidData(t *testing.T) {
	for i, x := range validDatas() {
		now := cacheTimes[i%len(cacheTimes)]
		for _, c := range []impl.ContentStore{storeOf(1), numberedStore(2, 2), numberedStore(8, 7)} {
			checkCache(t, c, x, now, model12Cache(c, x, now))
		}
	}
}

// The least of the times is found whatever they are, also where the difference of two of them is beyond the range of an int.
func TestCacheDataOfEachTime(t *testing.T) {
	times := slices.Concat(cacheTimes, anyIntegers)
	x := cached("/z").Data
	for _, first := range times {
		for _, second := range times {
			c := numberedStore(2, 2)
			c.Entries[0].LastUsed, c.Entries[1].LastUsed = first, second
			kept := c.Entries[1:]
			if second < first {
				kept = c.Entries[:1]
			}
			for _, now := range []int{math.MinInt, 0, 50, math.MaxInt} {
				want := slices.Concat(kept, []impl.CacheEntry{{Data: x, LastUsed: now}})
				checkCache(t, c, x, now, impl.ContentStore{Capacity: 2, Entries: want})
			}
		}
	}
}

// Each of the entries makes room, if it is the one used least recently; of two that are, the first one.
func TestCacheDataIntoEachFullStore(t *testing.T) {
	for length := 1; length <= 8; length++ {
		for first := range length {
			for second := first; second < length; second++ {
				c := numberedStore(length, length)
				c.Entries[first].LastUsed, c.Entries[second].LastUsed = 4, 4
				want := slices.Delete(slices.Clone(c.Entries), first, first+1)
				checkCache(t, c, cached("/z").Data, 50, impl.ContentStore{Capacity: length, Entries: append(want, cached("/z@50"))})
			}
			// A name that is present replaces its own entry only.
			c := numberedStore(length, length)
			want := slices.Delete(slices.Clone(c.Entries), first, first+1)
			x := cached(fmt.Sprintf("/n%03d=new@50", first))
			checkCache(t, c, x.Data, 50, impl.ContentStore{Capacity: length, Entries: append(want, x)})
		}
	}
}

func TestShortStoresAgainstTheModel(t *testing.T) {
	texts := []string{"/a=new~50", "/b=new", "/c/d", "/d", "/A", "/c", "/"}
	for _, c := range shortStores() {
		for _, s := range texts {
			x := cached(s).Data
			for _, now := range []int{math.MinInt, 2, 49, 50, 51, 501} {
				checkCache(t, c, x, now, model12Cache(c, x, now))
				want, ok := model12Lookup(c, x.Name, now)
				checkLookup(t, c, x.Name, now, want, ok)
				checkTouch(t, c, x.Name, now, model12Touch(c, x.Name, now))
				checkEvict(t, c, now, model12Evict(c, now))
			}
		}
		if t.Failed() {
			return
		}
	}
}

// Promise 12: of data that are cached one after another, with times that ascend, the last ones are kept, as many as the capacity permits.
func TestTheDataCachedLastAreKept(t *testing.T) {
	for _, capacity := range capacities {
		c, want := impl.NewContentStore(capacity), []string{}
		number := uint32(capacity + 1)
		for now := range 400 {
			number = number*1664525 + 1013904223
			name := fmt.Sprintf("/n%03d", (number>>16)%12)
			x := cached(fmt.Sprintf("%s=%d", name, now)).Data
			c = impl.CacheData(c, x, now)
			want = slices.DeleteFunc(want, func(s string) bool { return strings.HasPrefix(s, name+"@") })
			want = append(want, fmt.Sprintf("%s@%d", name, now))
			want = want[max(0, len(want)-capacity):]
			if got := usedTexts(c); !slices.Equal(got, want) {
				t.Fatalf("with the capacity %d, the store has %q, want %q", capacity, got, want)
			}
			checkValidStore(t, c, true)
			if found, ok := impl.CacheLookup(c, x.Name, 500); ok != (capacity > 0) || ok && dataText(found) != dataText(x) {
				t.Fatalf("with the capacity %d, CacheLookup of the data cached last = %s, %v", capacity, dataText(found), ok)
			}
		}
	}
}

// Data that are touched again and again are kept, whatever else is cached; those that are not are kept no longer.
func TestTouchedDataAreKept(t *testing.T) {
	for capacity := 2; capacity <= 8; capacity++ {
		c := impl.CacheData(impl.NewContentStore(capacity), cached("/z").Data, 0)
		for now := 1; now < 50; now++ {
			c = impl.Touch(impl.CacheData(c, cached(fmt.Sprintf("/n%03d", now)).Data, 2*now), nameOf("z"), 2*now+1)
			checkLookup(t, c, nameOf("z"), 500, cached("/z").Data, true)
			checkLookup(t, c, numberedName(now-capacity+1), 500, impl.Data{}, false)
		}
		for now := 50; now < 50+capacity; now++ {
			checkLookup(t, c, nameOf("z"), 500, cached("/z").Data, true)
			c = impl.CacheData(c, cached(fmt.Sprintf("/n%03d", now)).Data, 2*now)
		}
		checkLookup(t, c, nameOf("z"), 500, impl.Data{}, false)
	}
}

// A long series of all operations, with times that ascend and times that do not, leaves what the model has, and always a valid store.
func TestSeriesOfOperations(t *testing.T) {
	for _, capacity := range capacities {
		c, want := impl.NewContentStore(capacity), storeOf(capacity)
		number := uint32(capacity + 7)
		for step := range 2000 {
			number = number*1664525 + 1013904223
			now := step
			if number>>28 < 4 {
				now = int((number >> 8) % 3000)
			}
			x := cached(fmt.Sprintf("/n%03d=%d~%d", (number>>16)%11, step, now+int((number>>20)%7)*9)).Data
			switch (number >> 10) % 5 {
			case 0, 1, 2:
				c, want = impl.CacheData(c, x, now), model12Cache(want, x, now)
			case 3:
				c, want = impl.Touch(c, x.Name, now), model12Touch(want, x.Name, now)
			default:
				c, want = impl.EvictStale(c, now), model12Evict(want, now)
			}
			checkStore(t, fmt.Sprintf("the store after step %d", step), c, want)
			checkValidStore(t, c, true)
			wantData, wantOK := model12Lookup(want, x.Name, now)
			checkLookup(t, c, x.Name, now, wantData, wantOK)
			if t.Failed() {
				return
			}
		}
	}
}

func TestCacheLookup(t *testing.T) {
	cases := []struct {
		texts []string
		name  string
		now   int
		// found is the text of the data that are found, or "" if there are none.
		found string
	}{
		{nil, "/a", 5, ""}, {nil, "/", 5, ""}, {[]string{"/a=x"}, "/a", 5, "/a=x"}, {[]string{"/a=x", "/b=y", "/c=z"}, "/c", 5, "/c=z"}, {[]string{"/a=x", "/b=y", "/c=z"}, "/b", 5, "/b=y"},
		// A name that no entry has: neither a prefix nor a name under it is found.
		{[]string{"/a/b"}, "/a", 5, ""}, {[]string{"/a/b"}, "/a/b/c", 5, ""}, {[]string{"/a/b"}, "/b", 5, ""}, {[]string{"/a/b"}, "/", 5, ""}, {[]string{"/a", "/ab"}, "/a/b", 5, ""}, {[]string{"/a", "/a/b=x", "/a/b/c"}, "/a/b", 5, "/a/b=x"},
		// Fresh at exactly now, and one before and behind it.
		{[]string{"/a=x~50"}, "/a", 49, "/a=x~50"}, {[]string{"/a=x~50"}, "/a", 50, "/a=x~50"}, {[]string{"/a=x~50"}, "/a", 51, ""}, {[]string{"/a=x~0"}, "/a", 0, "/a=x~0"}, {[]string{"/a=x~0"}, "/a", 1, ""}, {[]string{"/a=x~0"}, "/a", -1, "/a=x~0"},
		{[]string{"/a=x~100000"}, "/a", 100000, "/a=x~100000"}, {[]string{"/a=x~100000"}, "/a", 100001, ""},
		// When it was last used does not matter, be it before now or after.
		{[]string{"/a=x@90~50"}, "/a", 50, "/a=x~50"}, {[]string{"/a=x@-90~50"}, "/a", 51, ""}, {[]string{"/a=x@500~50"}, "/a", -500, "/a=x~50"},
		// The first one of several, and the first fresh one, wherever it is.
		{[]string{"/a=x", "/a=y"}, "/a", 5, "/a=x"}, {[]string{"/b", "/a=y", "/a=x", "/b"}, "/a", 5, "/a=y"}, {[]string{"/a=x@1", "/a=y@2"}, "/a", 5, "/a=x"}, {[]string{"/a=x~50", "/a=y~90"}, "/a", 50, "/a=x~50"},
		{[]string{"/a=x~49", "/a=y~50"}, "/a", 50, "/a=y~50"}, {[]string{"/a=x~49", "/a=y~48", "/b~90", "/a=z~50", "/a=w~90"}, "/a", 50, "/a=z~50"}, {[]string{"/a=x~49", "/a=y~49"}, "/a", 50, ""}, {[]string{"/a=x~49", "/b=y~90"}, "/a", 50, ""},
		// Names and data that are not valid are found, too.
		{[]string{"/A=x", "/a=y"}, "/A", 5, "/A=x"}, {[]string{"/a", "/=x"}, "/", 5, "/=x"}, {[]string{"/a=x~-5"}, "/a", -5, "/a=x~-5"}, {[]string{"/a=x~-5"}, "/a", -4, ""}, {[]string{"/a/b", "/a//b=x"}, "/a//b", 5, "/a//b=x"},
		{[]string{"/a=x~9223372036854775807"}, "/a", math.MaxInt, "/a=x~9223372036854775807"}, {[]string{"/a=x~-9223372036854775808"}, "/a", math.MinInt, "/a=x~-9223372036854775808"}, {[]string{"/a=x~-9223372036854775808"}, "/a", math.MinInt + 1, ""}, {[]string{"/a=x~-2"}, "/a", math.MaxInt, ""},
	}
	for _, c := range cases {
		for _, capacity := range []int{0, 1, 8, -1, math.MaxInt} {
			if c.found == "" {
				checkLookup(t, storeOf(capacity, c.texts...), named(c.name), c.now, impl.Data{}, false)
			} else {
				checkLookup(t, storeOf(capacity, c.texts...), named(c.name), c.now, cached(c.found).Data, true)
			}
		}
	}
	for _, none := range emptyEntries {
		for _, n := range slices.Concat(emptyNames, namesOf("/a", "/n000", "/A")) {
			checkLookup(t, impl.ContentStore{Capacity: 2, Entries: none}, n, 0, impl.Data{}, false)
		}
	}
}

// Whatever data are in a store, they are found as they are, until the time until which they are fresh.
func TestCacheLookupOfEachData(t *testing.T) {
	for i, x := range slices.Concat(validDatas(), invalidDatas()) {
		c := numberedStore(8, 7)
		c.Entries[i%7].Data = x
		checkLookup(t, c, x.Name, x.FreshUntil, x, true)
		checkLookup(t, c, x.Name, math.MinInt, x, true)
		if x.FreshUntil < math.MaxInt {
			checkLookup(t, c, x.Name, x.FreshUntil+1, impl.Data{}, false)
			checkLookup(t, c, x.Name, math.MaxInt, impl.Data{}, false)
		}
	}
}

func TestTouch(t *testing.T) {
	cases := []struct {
		before []string
		name   string
		now    int
		after  []string
	}{
		{nil, "/a", 5, nil}, {nil, "/", 5, nil}, {[]string{"/a@1"}, "/a", 5, []string{"/a@5"}}, {[]string{"/a@1", "/b@2", "/c@3"}, "/b", 5, []string{"/a@1", "/b@5", "/c@3"}}, {[]string{"/a@1", "/b@2", "/c@3"}, "/c", 5, []string{"/a@1", "/b@2", "/c@5"}},
		// A name that no entry has.
		{[]string{"/a@1", "/a/b/c@2"}, "/a/b", 5, []string{"/a@1", "/a/b/c@2"}}, {[]string{"/a@1"}, "/", 5, []string{"/a@1"}}, {[]string{"/a@1"}, "/A", 5, []string{"/a@1"}},
		// Only the first one of several, also where another one was used later, or is fresh.
		{[]string{"/a=x@1", "/a=y@2"}, "/a", 5, []string{"/a=x@5", "/a=y@2"}}, {[]string{"/b@0", "/a=y@2", "/a=x@1"}, "/a", 5, []string{"/b@0", "/a=y@5", "/a=x@1"}}, {[]string{"/a=x@1~3", "/a=y@2~90"}, "/a", 5, []string{"/a=x@5~3", "/a=y@2~90"}},
		// The time may be before that of the entry, and the data need not be fresh.
		{[]string{"/a@7", "/b@6"}, "/a", 5, []string{"/a@5", "/b@6"}}, {[]string{"/a@7"}, "/a", -7, []string{"/a@-7"}}, {[]string{"/a@5"}, "/a", 5, []string{"/a@5"}}, {[]string{"/a@1~3"}, "/a", 4, []string{"/a@4~3"}},
		// Names that are not valid.
		{[]string{"/a@1", "/A@2", "/@3"}, "/A", 5, []string{"/a@1", "/A@5", "/@3"}}, {[]string{"/a@1", "/@3"}, "/", 5, []string{"/a@1", "/@5"}},
	}
	for _, c := range cases {
		for _, capacity := range []int{0, 1, 3, 8, -1, math.MaxInt} {
			checkTouch(t, storeOf(capacity, c.before...), named(c.name), c.now, storeOf(capacity, c.after...))
		}
	}
	for _, none := range emptyEntries {
		checkTouch(t, impl.ContentStore{Capacity: 2, Entries: none}, numberedName(0), 5, storeOf(2))
	}
	for _, now := range slices.Concat(cacheTimes, anyIntegers) {
		for at := range 8 {
			want := numberedStore(8, 8)
			want.Entries[at].LastUsed = now
			checkTouch(t, numberedStore(8, 8), numberedName(at), now, want)
		}
		checkTouch(t, numberedStore(8, 8), numberedName(8), now, numberedStore(8, 8))
	}
}

func TestEvictStale(t *testing.T) {
	cases := []struct {
		before []string
		now    int
		after  []string
	}{
		{nil, 0, nil}, {[]string{"/a~50"}, 49, []string{"/a~50"}}, {[]string{"/a~50"}, 50, []string{"/a~50"}}, {[]string{"/a~50"}, 51, nil}, {[]string{"/a~0"}, 0, []string{"/a~0"}}, {[]string{"/a~0"}, 1, nil}, {[]string{"/a~0"}, -1, []string{"/a~0"}},
		{[]string{"/a~49", "/b~50", "/c~51"}, 50, []string{"/b~50", "/c~51"}}, {[]string{"/c~51", "/a~49", "/b~50"}, 50, []string{"/c~51", "/b~50"}}, {[]string{"/d~90", "/a~49", "/c~90", "/b~49", "/e~48"}, 50, []string{"/d~90", "/c~90"}},
		{[]string{"/a~49", "/b~49"}, 50, nil}, {[]string{"/a~49", "/b~49"}, 49, []string{"/a~49", "/b~49"}},
		// When they were last used does not matter, and stays as it is.
		{[]string{"/a@90~49", "/b@-90~50", "/c@50~49"}, 50, []string{"/b@-90~50"}}, {[]string{"/a@7~50", "/b@3~90"}, 50, []string{"/a@7~50", "/b@3~90"}},
		// Each of several entries with the same name is judged by itself.
		{[]string{"/a=x~49", "/a=y~50", "/a=z~49", "/a=w~51"}, 50, []string{"/a=y~50", "/a=w~51"}}, {[]string{"/A~49", "/A~50", "/~50", "/a~-5"}, 50, []string{"/A~50", "/~50"}}, {[]string{"/a~-5", "/b~-4"}, -4, []string{"/b~-4"}},
	}
	for _, c := range cases {
		for _, capacity := range []int{0, 1, 5, 8, -1, math.MaxInt} {
			checkEvict(t, storeOf(capacity, c.before...), c.now, storeOf(capacity, c.after...))
		}
	}
	for _, now := range cacheTimes {
		for _, none := range emptyEntries {
			checkEvict(t, impl.ContentStore{Capacity: 2, Entries: none}, now, storeOf(2))
		}
	}
	for set := range 256 {
		before, after := storeOf(8), storeOf(8)
		for i, e := range numberedStore(8, 8).Entries {
			e.Data.FreshUntil = 49 + (set>>i)%2
			before.Entries = append(before.Entries, e)
			if e.Data.FreshUntil == 50 {
				after.Entries = append(after.Entries, e)
			}
		}
		checkEvict(t, before, 50, after)
	}
	for _, x := range slices.Concat(validDatas(), invalidDatas()) {
		c := impl.ContentStore{Capacity: 1, Entries: []impl.CacheEntry{{Data: x, LastUsed: 3}}}
		checkEvict(t, c, x.FreshUntil, c)
		if x.FreshUntil < math.MaxInt {
			checkEvict(t, c, x.FreshUntil+1, storeOf(1))
		}
	}
}

// Names that are not valid may have the same text, and are different all the same.
func TestContentStoresOfNamesWithTheSameText(t *testing.T) {
	c := impl.ContentStore{Capacity: 100}
	for i, n := range sameTexts {
		x := cached("/a").Data
		x.Name, x.Content = n, []byte{byte(i)}
		c.Entries = append(c.Entries, impl.CacheEntry{Data: x, LastUsed: 9})
	}
	for _, n := range sameTexts {
		want, ok := model12Lookup(c, n, 50)
		checkLookup(t, c, n, 50, want, ok)
		checkTouch(t, c, n, 50, model12Touch(c, n, 50))
		if impl.ValidName(n) && len(n.Parts) > 0 {
			x := cached("/a=new").Data
			x.Name = n
			checkCache(t, c, x, 50, model12Cache(c, x, 50))
		}
	}
}

// What is evicted is not found at this time, and what is not is found as before.
func TestEvictedDataAreNotFound(t *testing.T) {
	for _, c := range shortStores() {
		for _, now := range []int{2, 49, 50, 51, 501} {
			evicted := impl.EvictStale(c, now)
			for _, n := range namesOf("/a", "/b", "/c/d", "/A") {
				want, wantOK := model12Lookup(c, n, now)
				checkLookup(t, evicted, n, now, want, wantOK)
				if _, ok := impl.CacheLookup(evicted, n, math.MinInt); ok != wantOK {
					t.Fatalf("CacheLookup(EvictStale(%s, %d), %q) = %v", storeText(c), now, n.Parts, ok)
				}
			}
		}
	}
}

func TestCachedNames(t *testing.T) {
	for _, texts := range [][]string{
		nil, {"/a"}, {"/b", "/a"}, {"/a", "/b"}, {"/a/b", "/a", "/a/b/c"}, {"/a", "/a"}, {"/b", "/a", "/b", "/a"}, {"/A", "/", "/a//b", "/a/b/c/d/e/f/g"}, rowTexts(0, 7), rowTexts(0, 20),
	} {
		for _, capacity := range []int{0, 1, 8, -1, math.MaxInt} {
			if got := impl.CachedNames(storeOf(capacity, texts...)); namesText(got) != namesText(namesOf(texts...)) {
				t.Errorf("CachedNames(%s) = %s, want %q", storeText(storeOf(capacity, texts...)), namesText(got), texts)
			}
		}
	}
	// Whether data are fresh, and when they were last used, does not matter.
	if got := impl.CachedNames(storeOf(2, "/b@9~0", "/a@-9~-1")); namesText(got) != namesText(namesOf("/b", "/a")) {
		t.Errorf("CachedNames of data that are not fresh = %s", namesText(got))
	}
	for _, none := range emptyEntries {
		if got := impl.CachedNames(impl.ContentStore{Capacity: 2, Entries: none}); len(got) != 0 {
			t.Errorf("CachedNames of no entries = %s", namesText(got))
		}
	}
}

func checkEqualStores(t *testing.T, a, b impl.ContentStore, want bool) {
	t.Helper()
	if impl.EqualContentStores(a, b) != want || impl.EqualContentStores(b, a) != want {
		t.Errorf("EqualContentStores of %s and %s = %v, %v, want %v", storeText(a), storeText(b), impl.EqualContentStores(a, b), impl.EqualContentStores(b, a), want)
	}
}

func TestEqualContentStores(t *testing.T) {
	for _, a := range emptyEntries {
		for _, b := range emptyEntries {
			for _, capacity := range append(slices.Clone(capacities), notCapacities...) {
				checkEqualStores(t, impl.ContentStore{Capacity: capacity, Entries: a}, impl.ContentStore{Capacity: capacity, Entries: b}, true)
			}
			checkEqualStores(t, impl.ContentStore{Capacity: 1, Entries: a}, impl.ContentStore{Capacity: 2, Entries: b}, false)
		}
		checkEqualStores(t, impl.ContentStore{Capacity: 2, Entries: a}, storeOf(2, "/a"), false)
		checkEqualStores(t, impl.ContentStore{Entries: a}, impl.ContentStore{Entries: make([]impl.CacheEntry, 1)}, false)
	}
	for _, a := range append(slices.Clone(capacities), notCapacities...) {
		for _, b := range append(slices.Clone(capacities), notCapacities...) {
			checkEqualStores(t, storeOf(a, "/a", "/b"), storeOf(b, "/a", "/b"), a == b)
		}
	}
	for _, a := range slices.Concat(cacheTimes, anyIntegers) {
		for _, b := range slices.Concat(cacheTimes, anyIntegers) {
			checkEqualStores(t, impl.ContentStore{Capacity: 1, Entries: []impl.CacheEntry{{LastUsed: a}}}, impl.ContentStore{Capacity: 1, Entries: []impl.CacheEntry{{LastUsed: b}}}, a == b)
		}
	}
	// The order of the entries matters.
	checkEqualStores(t, storeOf(2, "/a", "/b"), storeOf(2, "/b", "/a"), false)
	// Without content or without parts, nil and empty are equal.
	empty := impl.CacheEntry{Data: impl.Data{Name: impl.Name{Parts: []string{}}, Content: []byte{}, KeyName: impl.Name{Parts: []string{}}}}
	checkEqualStores(t, impl.ContentStore{Entries: []impl.CacheEntry{empty}}, impl.ContentStore{Entries: make([]impl.CacheEntry, 1)}, true)
}

// Valid or not, stores are equal if they have the same capacity and the same entries at the same positions.
func TestEqualContentStoresOfShortStores(t *testing.T) {
	all := shortStores()
	for i, a := range all {
		b := impl.ContentStore{Capacity: a.Capacity}
		for _, e := range a.Entries {
			b.Entries = append(b.Entries, impl.CacheEntry{Data: guardData(e.Data).data, LastUsed: e.LastUsed})
		}
		checkEqualStores(t, a, b, true)
		for j := i % 13; j < len(all); j += 13 {
			if got := impl.EqualContentStores(a, all[j]); got != (i == j) {
				t.Fatalf("EqualContentStores(%s, %s) = %v", storeText(a), storeText(all[j]), got)
			}
		}
	}
}

func TestEqualContentStoresOfOneChange(t *testing.T) {
	changes := map[string]func(e *impl.CacheEntry){
		"the time":            func(e *impl.CacheEntry) { e.LastUsed++ },
		"the name":            func(e *impl.CacheEntry) { e.Data.Name = numberedName(77) },
		"a part more":         func(e *impl.CacheEntry) { e.Data.Name = nameOf(e.Data.Name.Parts[0], "a") },
		"the content":         func(e *impl.CacheEntry) { e.Data.Content = []byte("changed") },
		"no content":          func(e *impl.CacheEntry) { e.Data.Content = nil },
		"the name of the key": func(e *impl.CacheEntry) { e.Data.KeyName = nameOf("a") },
		"FreshUntil":          func(e *impl.CacheEntry) { e.Data.FreshUntil-- },
		"the signature":       func(e *impl.CacheEntry) { e.Data.Signature++ },
	}
	for length := 1; length <= 10; length++ {
		checkEqualStores(t, numberedStore(8, length), numberedStore(8, length), true)
		for at := range length {
			for what, change := range changes {
				c := numberedStore(8, length)
				change(&c.Entries[at])
				if impl.EqualContentStores(numberedStore(8, length), c) || impl.EqualContentStores(c, numberedStore(8, length)) {
					t.Errorf("EqualContentStores of %d entries, with a change of %s at %d, = true", length, what, at)
				}
			}
			shorter := numberedStore(8, length)
			shorter.Entries = slices.Delete(shorter.Entries, at, at+1)
			checkEqualStores(t, numberedStore(8, length), shorter, false)
		}
	}
}

// A guarded store has spare capacity behind its entries, and behind each name and each content of them.
type guardedStore struct {
	store    impl.ContentStore
	entries  guardedList[impl.CacheEntry]
	contents []guarded[byte]
}

func guardStore(c impl.ContentStore) guardedStore {
	g := guardedStore{store: c}
	entries := []impl.CacheEntry{}
	for _, e := range slices.Concat(c.Entries, storeOf(8, "/q@0", "/a=x@-9", "/n000=x@1", "/A@0~-1", "/z@-50", "/b=x@9~9").Entries) {
		content := guard(e.Data.Content)
		g.contents = append(g.contents, content)
		e.Data.Content = content.slice
		entries = append(entries, e)
	}
	count := len(c.Entries)
	g.entries = guardList(entries[:count], entries[count:], func(e *impl.CacheEntry) []*[]string { return []*[]string{&e.Data.Name.Parts, &e.Data.KeyName.Parts} }, entriesText)
	g.store.Entries = g.entries.slice
	return g
}

func (g guardedStore) check(t *testing.T, what string) {
	t.Helper()
	g.entries.check(t, what+", the store")
	for _, content := range g.contents {
		content.check(t, what+", the content of an entry")
	}
}

// scribbleStore changes all memory of a store.
func scribbleStore(c impl.ContentStore) {
	whole := c.Entries[:cap(c.Entries)]
	for i := range whole {
		scribbleData(whole[i].Data)
		whole[i] = cached("/changed=changed@-77")
	}
}

// memoryStores are stores, valid or not; memoryCached are data of which some are in some of them, and some are not valid.
func memoryStores() []impl.ContentStore {
	all := []impl.ContentStore{
		{}, storeOf(2), storeOf(0, "/a"), storeOf(-1, "/a", "/b"), storeOf(1, "/a@1"), storeOf(2, "/a=x@1~49"), storeOf(2, "/a@2", "/b@1"), storeOf(2, "/b@1~49", "/a@2~49"), storeOf(3, "/a@1", "/b@1~0"), storeOf(4, "/a=x@3~49", "/b@2", "/a=y@1", "/A@0"),
		storeOf(2, "/a=x@1", "/a=y@1", "/a=z@1"), storeOf(1, "/@1", "/A@2", "/a/b/c/d/e/f/g@3"), numberedStore(8, 7), numberedStore(8, 8), numberedStore(9, 9), numberedStore(3, 20),
	}
	invalid := impl.ContentStore{Capacity: 3}
	for _, x := range invalidDatas()[:9] {
		invalid.Entries = append(invalid.Entries, impl.CacheEntry{Data: x, LastUsed: 1})
	}
	return append(all, invalid)
}

func memoryCached() []impl.Data {
	all := []impl.Data{{}, dataOf("/a", "hi", "/a", -1, -1), dataOf("/A", "hi", "/k", 50, 1), dataOf("/", "", "/", 0, 0), dataOf("/a/b/c/d/e/f", string(counting(60)), "/a/b/c/d/e/f", 100000, 0)}
	for _, s := range []string{"/a=new", "/b=new~50", "/c", "/n000=new", "/n007=new", "/a/b="} {
		all = append(all, cached(s).Data)
	}
	return all
}

func TestContentStoresAreLeftAsTheyAre(t *testing.T) {
	for _, c := range memoryStores() {
		for _, x := range memoryCached() {
			g, other, data := guardStore(c), guardStore(c), guardData(x)
			before := storeText(g.store)
			calls := []struct {
				what string
				call func()
			}{
				{"ValidContentStore", func() { impl.ValidContentStore(g.store) }},
				{"CacheData", func() { impl.CacheData(g.store, data.data, 50) }},
				{"CacheData, earlier", func() { impl.CacheData(g.store, data.data, -50) }},
				{"CacheLookup", func() { impl.CacheLookup(g.store, data.data.Name, 50) }},
				{"CacheLookup, later", func() { impl.CacheLookup(g.store, data.data.Name, 501) }},
				{"Touch", func() { impl.Touch(g.store, data.data.Name, 50) }},
				{"EvictStale", func() { impl.EvictStale(g.store, 50) }},
				{"EvictStale, later", func() { impl.EvictStale(g.store, 501) }},
				{"CachedNames", func() { impl.CachedNames(g.store) }},
				{"EqualContentStores", func() { impl.EqualContentStores(g.store, other.store) }},
			}
			for _, f := range calls {
				f.call()
				g.check(t, f.what)
				other.check(t, f.what+", the second store")
				data.check(t, f.what)
				if storeText(g.store) != before || dataText(data.data) != dataText(x) {
					t.Errorf("%s changes %s or %s to %s or %s", f.what, before, dataText(x), storeText(g.store), dataText(data.data))
				}
			}
		}
	}
}

var storeResults = []struct {
	what string
	call func(c impl.ContentStore, x impl.Data) impl.ContentStore
}{
	{"CacheData", func(c impl.ContentStore, x impl.Data) impl.ContentStore { return impl.CacheData(c, x, 50) }},
	{"CacheData, earlier", func(c impl.ContentStore, x impl.Data) impl.ContentStore { return impl.CacheData(c, x, -50) }},
	{"Touch", func(c impl.ContentStore, x impl.Data) impl.ContentStore { return impl.Touch(c, x.Name, 50) }},
	{"EvictStale", func(c impl.ContentStore, x impl.Data) impl.ContentStore { return impl.EvictStale(c, 50) }},
	{"EvictStale, earlier", func(c impl.ContentStore, x impl.Data) impl.ContentStore { return impl.EvictStale(c, -50) }},
	{"CacheLookup", func(c impl.ContentStore, x impl.Data) impl.ContentStore {
		found, _ := impl.CacheLookup(c, x.Name, 50)
		return impl.ContentStore{Entries: []impl.CacheEntry{{Data: found}}}
	}},
	{"CachedNames", func(c impl.ContentStore, x impl.Data) impl.ContentStore {
		result := impl.ContentStore{}
		for _, n := range impl.CachedNames(c) {
			result.Entries = append(result.Entries, impl.CacheEntry{Data: impl.Data{Name: n}})
		}
		return result
	}},
}

func TestContentStoresAreNewMemory(t *testing.T) {
	for _, c := range memoryStores() {
		for _, x := range memoryCached() {
			for _, f := range storeResults {
				g, data := guardStore(c), guardData(x)
				first, second := f.call(g.store, data.data), f.call(g.store, data.data)
				want := storeText(second)
				scribbleStore(first)
				g.check(t, f.what+", its result changed")
				data.check(t, f.what+", its result changed")
				scribbleStore(g.store)
				scribbleData(data.data)
				if storeText(second) != want {
					t.Errorf("%s of %s, %s shares memory with its arguments or with another result", f.what, storeText(c), dataText(x))
				}
			}
		}
	}
}

// The list of names is new memory, too.
func TestListsOfCachedNamesAreNewMemory(t *testing.T) {
	for _, c := range memoryStores() {
		g := guardStore(c)
		first, second := impl.CachedNames(g.store), impl.CachedNames(g.store)
		want := namesText(second)
		scribbleNames(first)
		g.check(t, "CachedNames, its result changed")
		if namesText(second) != want {
			t.Errorf("CachedNames(%s): two results share memory", storeText(c))
		}
	}
}

// The names and the contents of a result are apart from each other, also where those of the arguments are parts of one array.
func TestDataOfContentStoresAreApart(t *testing.T) {
	parts, content := []string{"a", "b", "c", "d", "e", "f"}, []byte("abcdefgh")
	c := impl.ContentStore{Capacity: 4}
	for i := range 4 {
		x := impl.Data{Name: nameOf(parts[:i+1]...), Content: content[:2*i], KeyName: nameOf(parts[:2]...), FreshUntil: 500}
		c.Entries = append(c.Entries, impl.CacheEntry{Data: x, LastUsed: i})
	}
	for _, x := range []impl.Data{c.Entries[1].Data, {Name: nameOf(parts[1:]...), Content: content, KeyName: nameOf(parts[1:]...), FreshUntil: 500}, {}} {
		for _, f := range storeResults {
			count := len(f.call(c, x).Entries)
			for at := range count {
				result := f.call(c, x)
				others := entriesText(result.Entries[:at]) + entriesText(result.Entries[at+1:])
				key := slices.Clone(result.Entries[at].Data.KeyName.Parts)
				scribbleParts(result.Entries[at].Data.Name)
				if !slices.Equal(result.Entries[at].Data.KeyName.Parts, key) {
					t.Errorf("%s: the names of the data at %d share memory", f.what, at)
				}
				scribbleData(result.Entries[at].Data)
				if entriesText(result.Entries[:at])+entriesText(result.Entries[at+1:]) != others {
					t.Errorf("%s: the data at %d share memory with others", f.what, at)
				}
			}
		}
	}
	if !slices.Equal(parts, []string{"a", "b", "c", "d", "e", "f"}) || !bytes.Equal(content, []byte("abcdefgh")) {
		t.Errorf("the arrays are %q and %q", parts, content)
	}
}

// What lies behind the last entry of a store, or behind a name or a content of it, counts for nothing.
func TestSpareMemoryOfContentStoresIsNotRead(t *testing.T) {
	all := storeOf(2, "/a=x@2~50", "/b=y@1", "/b=z@0", "/A@0")
	c := impl.ContentStore{Capacity: 2, Entries: all.Entries[:1]}
	c.Entries[0].Data.Name.Parts = []string{"a", "b", "C"}[:1]
	c.Entries[0].Data.Content = []byte("xyz")[:1]
	same := storeOf(2, "/a=x@2~50")
	checkValidStore(t, c, true)
	checkValidStore(t, impl.ContentStore{Capacity: 1, Entries: c.Entries}, true)
	checkEqualStores(t, c, same, true)
	checkEqualStores(t, c, storeOf(2, "/a=x@2~50", "/b=y@1"), false)
	checkCache(t, c, cached("/c").Data, 5, storeOf(2, "/a=x@2~50", "/c@5"))
	checkCache(t, c, cached("/b=new").Data, 5, storeOf(2, "/a=x@2~50", "/b=new@5"))
	checkLookup(t, c, nameOf("a"), 5, cached("/a=x~50").Data, true)
	for _, s := range []string{"/b", "/A", "/a/b"} {
		checkLookup(t, c, named(s), 5, impl.Data{}, false)
		checkTouch(t, c, named(s), 5, same)
	}
	checkEvict(t, c, 50, same)
	checkEvict(t, c, 51, storeOf(2))
	if got := impl.CachedNames(c); namesText(got) != namesText(namesOf("/a")) {
		t.Errorf("CachedNames = %s", namesText(got))
	}
}
