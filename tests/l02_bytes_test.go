package tests

import (
	"bytes"
	"math"
	"slices"
	"testing"

	"loop.example/g00507/impl"
)

// In these encodings, every integer is written with the least number of bytes that has room for it.
var varints = []struct {
	n       int
	encoded []byte
}{
	{0, []byte{0}}, {1, []byte{1}}, {5, []byte{5}}, {126, []byte{126}}, {127, []byte{127}},
	{128, []byte{128, 1}}, {129, []byte{129, 1}}, {255, []byte{255, 1}}, {256, []byte{128, 2}}, {300, []byte{172, 2}},
	{1<<14 - 1, []byte{255, 127}}, {1 << 14, []byte{128, 128, 1}},
	{1<<21 - 1, []byte{255, 255, 127}}, {1 << 21, []byte{128, 128, 128, 1}},
	{1<<28 - 1, []byte{255, 255, 255, 127}}, {1 << 28, []byte{128, 128, 128, 128, 1}},
	{1<<35 - 1, []byte{255, 255, 255, 255, 127}}, {1 << 35, []byte{128, 128, 128, 128, 128, 1}},
	{1<<35 + 1, []byte{129, 128, 128, 128, 128, 1}},
	{impl.MaxInt - 1, []byte{255, 159, 148, 165, 141, 29}},
	{impl.MaxInt, []byte{128, 160, 148, 165, 141, 29}},
}

var notEncodable = []int{
	-1, -2, -127, -128, -129, -impl.MaxInt, math.MinInt,
	impl.MaxInt + 1, impl.MaxInt + 128, 1 << 40, 1 << 42, 1<<62 + 1, math.MaxInt,
}

func TestAppendVarint(t *testing.T) {
	for _, c := range varints {
		for _, before := range [][]byte{nil, {}, {9}, {0, 128, 255, 7}} {
			want := append(slices.Clone(before), c.encoded...)
			if got := impl.AppendVarint(before, c.n); !bytes.Equal(got, want) {
				t.Errorf("AppendVarint(%v, %d) = %v, want %v", before, c.n, got, want)
			}
		}
	}
}

func TestAppendVarintOutsideItsRange(t *testing.T) {
	for _, n := range notEncodable {
		for _, before := range [][]byte{nil, {}, {9}, {0, 128, 255, 7}} {
			if got := impl.AppendVarint(before, n); !bytes.Equal(got, before) {
				t.Errorf("AppendVarint(%v, %d) = %v, want %v", before, n, got, before)
			}
		}
	}
}

func TestAppendVarintMakesNewMemory(t *testing.T) {
	for _, l := range [][]byte{{}, {1, 2, 3}} {
		for _, n := range []int{0, 127, 128, impl.MaxInt, impl.MaxInt + 1, -1} {
			b := guard(l)
			first := impl.AppendVarint(b.slice, n)
			second := impl.AppendVarint(b.slice, n)
			b.check(t, "AppendVarint")
			want := slices.Clone(second)
			scribble(first)
			b.check(t, "AppendVarint, its result changed")
			if !bytes.Equal(second, want) {
				t.Errorf("AppendVarint(%v, %d): two results share memory", l, n)
			}
		}
	}
}

func TestReadVarint(t *testing.T) {
	for _, c := range varints {
		for _, before := range [][]byte{{}, {9}, {128, 255, 128}} {
			for _, after := range [][]byte{{}, {0}, {1, 255}, {255, 255, 255, 255, 255, 255, 255}} {
				b := slices.Concat(before, c.encoded, after)
				next := len(before) + len(c.encoded)
				if n, end, ok := impl.ReadVarint(b, len(before)); n != c.n || end != next || !ok {
					t.Errorf("ReadVarint(%v, %d) = %d, %d, %v, want %d, %d, true", b, len(before), n, end, ok, c.n, next)
				}
			}
		}
	}
}

func TestReadVarintRejects(t *testing.T) {
	encodings := [][]byte{
		nil, {},
		// Not complete, although shorter than six bytes.
		{128}, {255}, {129, 128}, {255, 255, 255}, {128, 128, 128, 128, 128},
		// Not complete within six bytes.
		{128, 128, 128, 128, 128, 128}, {255, 255, 255, 255, 255, 255},
		{128, 128, 128, 128, 128, 128, 1}, {129, 128, 128, 128, 128, 128, 0}, {255, 255, 255, 255, 255, 255, 127},
		{128, 128, 128, 128, 128, 128, 128, 128, 128, 1},
		// The last of several groups is 0.
		{128, 0}, {129, 0}, {255, 0}, {128, 128, 0}, {255, 255, 255, 0}, {128, 128, 128, 128, 0}, {129, 128, 128, 128, 128, 0},
		{128, 0, 1},
		// More than MaxInt.
		{129, 160, 148, 165, 141, 29}, {128, 161, 148, 165, 141, 29}, {128, 160, 148, 165, 141, 30},
		{255, 255, 255, 255, 255, 29}, {128, 128, 128, 128, 128, 30}, {255, 255, 255, 255, 255, 127},
	}
	for _, b := range encodings {
		for _, before := range [][]byte{{}, {9}, {1, 128, 0, 3}} {
			whole := slices.Concat(before, b)
			if n, next, ok := impl.ReadVarint(whole, len(before)); n != 0 || next != 0 || ok {
				t.Errorf("ReadVarint(%v, %d) = %d, %d, %v, want 0, 0, false", whole, len(before), n, next, ok)
			}
		}
	}
}

func TestReadVarintOutsideTheSlice(t *testing.T) {
	for _, b := range [][]byte{nil, {}, {1}, {1, 2, 3, 4, 5, 6, 7, 8}} {
		for _, at := range []int{-1, -2, -6, -7, -8, math.MinInt, len(b), len(b) + 1, len(b) + 6, 1 << 40, math.MaxInt - 6, math.MaxInt - 5, math.MaxInt} {
			g := guard(b)
			if n, next, ok := impl.ReadVarint(g.slice, at); n != 0 || next != 0 || ok {
				t.Errorf("ReadVarint(%v, %d) = %d, %d, %v, want 0, 0, false", b, at, n, next, ok)
			}
			g.check(t, "ReadVarint")
		}
	}
}

// What lies behind the slice would complete these encodings, but must not be read.
func TestReadingStopsAtTheLength(t *testing.T) {
	b := []byte{128, 1, 2, 97, 98, 99}
	if n, next, ok := impl.ReadVarint(b[:1], 0); n != 0 || next != 0 || ok {
		t.Errorf("ReadVarint = %d, %d, %v, want 0, 0, false", n, next, ok)
	}
	for _, part := range [][]byte{b[2:3], b[2:4]} {
		if s, next, ok := impl.ReadBytes(part, 0, 5); len(s) != 0 || next != 0 || ok {
			t.Errorf("ReadBytes = %v, %d, %v, want [], 0, false", s, next, ok)
		}
	}
	if l, next, ok := impl.DecodeInts(b[1:3], 0, 3); len(l) != 0 || next != 0 || ok {
		t.Errorf("DecodeInts = %v, %d, %v, want [], 0, false", l, next, ok)
	}
}

func TestReadVarintOfAppendVarint(t *testing.T) {
	check := func(n int) {
		b := impl.AppendVarint([]byte{7, 200}, n)
		if n < 0 || n > impl.MaxInt {
			if len(b) != 2 {
				t.Errorf("AppendVarint of %d = %v", n, b)
			}
			return
		}
		got, next, ok := impl.ReadVarint(b, 2)
		if got != n || next != len(b) || !ok {
			t.Errorf("ReadVarint of AppendVarint of %d = %d, %d, %v, want %d, %d, true", n, got, next, ok, n, len(b))
		}
	}
	for power := 1; power <= 1<<50; power *= 2 {
		for n := power - 300; n <= power+300; n++ {
			check(n)
		}
	}
	for n := impl.MaxInt - 1000; n <= impl.MaxInt+1000; n++ {
		check(n)
	}
	for n := range 40000 {
		check(n)
	}
}

// No two encodings stand for the same integer: what is read is written with the same bytes again.
func TestEveryVarintHasOneEncoding(t *testing.T) {
	values := []byte{0, 1, 29, 30, 127, 128, 129, 255}
	all := [][]byte{{}}
	for first, length := 0, 0; length < 6; length++ {
		last := len(all)
		for _, b := range all[first:last] {
			for _, v := range values {
				all = append(all, append(slices.Clone(b), v))
			}
		}
		first = last
	}
	for _, b := range all {
		n, next, ok := impl.ReadVarint(b, 0)
		if !ok {
			if n != 0 || next != 0 {
				t.Fatalf("ReadVarint(%v, 0) = %d, %d, false", b, n, next)
			}
			continue
		}
		if again := impl.AppendVarint(nil, n); !bytes.Equal(again, b[:next]) {
			t.Fatalf("ReadVarint(%v, 0) = %d, %d, true, but AppendVarint of it is %v", b, n, next, again)
		}
	}
}

func counting(length int) []byte {
	b := make([]byte, length)
	for i := range b {
		b[i] = byte(i*7 + 250)
	}
	return b
}

func TestAppendBytes(t *testing.T) {
	cases := []struct{ b, s, want []byte }{
		{nil, nil, []byte{0}},
		{nil, []byte{}, []byte{0}},
		{[]byte{}, nil, []byte{0}},
		{[]byte{9}, nil, []byte{9, 0}},
		{[]byte{9}, []byte{}, []byte{9, 0}},
		{nil, []byte{0}, []byte{1, 0}},
		{[]byte{9}, []byte("ab"), []byte{9, 2, 97, 98}},
		{[]byte{255, 0}, []byte{255, 128, 0}, []byte{255, 0, 3, 255, 128, 0}},
		{[]byte{1}, counting(127), append([]byte{1, 127}, counting(127)...)},
		{[]byte{1}, counting(128), append([]byte{1, 128, 1}, counting(128)...)},
		{nil, counting(300), append([]byte{172, 2}, counting(300)...)},
		{nil, counting(16384), append([]byte{128, 128, 1}, counting(16384)...)},
	}
	for _, c := range cases {
		if got := impl.AppendBytes(c.b, c.s); !bytes.Equal(got, c.want) {
			t.Errorf("AppendBytes(%v, %v) = %v, want %v", c.b, c.s, got, c.want)
		}
	}
}

func TestAppendBytesMakesNewMemory(t *testing.T) {
	for _, before := range [][]byte{{}, {1, 2, 3}} {
		for _, appended := range [][]byte{{}, {4}, counting(200)} {
			b, s := guard(before), guard(appended)
			first := impl.AppendBytes(b.slice, s.slice)
			second := impl.AppendBytes(b.slice, s.slice)
			want := slices.Clone(second)
			scribble(first)
			b.check(t, "AppendBytes, first argument")
			s.check(t, "AppendBytes, second argument")
			if !bytes.Equal(second, want) {
				t.Errorf("AppendBytes(%v, %v): two results share memory", before, appended)
			}
		}
	}
}

// The appended bytes may lie in the spare capacity of the slice before them, or be that slice.
func TestAppendBytesOfOneArray(t *testing.T) {
	whole := []byte{1, 2, 3, 4, 5}
	if got := impl.AppendBytes(whole[:2], whole[2:]); !bytes.Equal(got, []byte{1, 2, 3, 3, 4, 5}) {
		t.Errorf("AppendBytes = %v", got)
	}
	if got := impl.AppendBytes(whole[:2], whole[:2]); !bytes.Equal(got, []byte{1, 2, 2, 1, 2}) {
		t.Errorf("AppendBytes = %v", got)
	}
	if !bytes.Equal(whole, []byte{1, 2, 3, 4, 5}) {
		t.Errorf("AppendBytes changed its arguments to %v", whole)
	}
}

func TestReadBytes(t *testing.T) {
	cases := []struct {
		b        []byte
		at, most int
		want     []byte
		next     int
	}{
		{[]byte{0}, 0, 0, nil, 1},
		{[]byte{0}, 0, 5, nil, 1},
		{[]byte{0, 9, 9}, 0, 2, nil, 1},
		{[]byte{9, 0}, 1, 0, nil, 2},
		{[]byte{1, 0}, 0, 1, []byte{0}, 2},
		{[]byte{9, 2, 97, 98}, 1, 2, []byte("ab"), 4},
		{[]byte{9, 2, 97, 98}, 1, 3, []byte("ab"), 4},
		{[]byte{9, 2, 97, 98, 99}, 1, impl.MaxInt, []byte("ab"), 4},
		{[]byte{9, 2, 97, 98, 99}, 1, math.MaxInt, []byte("ab"), 4},
		{[]byte{3, 255, 128, 0, 7}, 0, 3, []byte{255, 128, 0}, 4},
		{append([]byte{127}, counting(127)...), 0, 127, counting(127), 128},
		{append([]byte{128, 1}, counting(128)...), 0, 128, counting(128), 130},
		{append([]byte{5, 128, 1}, counting(200)...), 1, 128, counting(128), 131},
	}
	for _, c := range cases {
		if s, next, ok := impl.ReadBytes(c.b, c.at, c.most); !bytes.Equal(s, c.want) || next != c.next || !ok {
			t.Errorf("ReadBytes(%v, %d, %d) = %v, %d, %v, want %v, %d, true", c.b, c.at, c.most, s, next, ok, c.want, c.next)
		}
	}
}

func TestReadBytesRejects(t *testing.T) {
	cases := []struct {
		b        []byte
		at, most int
	}{
		// No length, or one that is not encoded properly.
		{nil, 0, 5}, {[]byte{}, 0, 5}, {[]byte{128}, 0, 500}, {[]byte{128, 0}, 0, 5}, {[]byte{130, 0, 1, 2}, 0, 5},
		{[]byte{128, 128, 128, 128, 128, 128, 0}, 0, 5}, {[]byte{129, 160, 148, 165, 141, 29, 1}, 0, math.MaxInt},
		// Longer than most.
		{[]byte{1, 7}, 0, 0}, {[]byte{2, 97, 98}, 0, 1}, {[]byte{9, 2, 97, 98, 99}, 1, 1}, {[]byte{2, 97, 98}, 0, 0},
		{append([]byte{128, 1}, counting(128)...), 0, 127},
		{[]byte{0}, 0, -1}, {[]byte{2, 97, 98}, 0, -1}, {[]byte{2, 97, 98}, 0, -2}, {[]byte{0}, 0, math.MinInt},
		// Fewer bytes than the length.
		{[]byte{1}, 0, 5}, {[]byte{2, 97}, 0, 5}, {[]byte{3, 97, 98}, 0, 5}, {[]byte{9, 3, 97, 98}, 1, 3},
		{append([]byte{128, 1}, counting(127)...), 0, 500},
		{[]byte{128, 160, 148, 165, 141, 29, 1}, 0, impl.MaxInt}, {[]byte{128, 160, 148, 165, 141, 29, 1}, 0, math.MaxInt},
		// An offset outside the slice.
		{[]byte{0, 0}, -1, 5}, {[]byte{0, 0}, 2, 5}, {[]byte{0, 0}, 3, 5},
		{[]byte{0, 0}, math.MinInt, 5}, {[]byte{0, 0}, math.MaxInt, 5}, {nil, -1, 0}, {nil, 1, 0},
	}
	for _, c := range cases {
		if s, next, ok := impl.ReadBytes(c.b, c.at, c.most); len(s) != 0 || next != 0 || ok {
			t.Errorf("ReadBytes(%v, %d, %d) = %v, %d, %v, want [], 0, false", c.b, c.at, c.most, s, next, ok)
		}
	}
}

func TestReadBytesMakesNewMemory(t *testing.T) {
	for _, b := range [][]byte{{0}, {2, 97, 98}, {2, 97, 98, 99, 99}, {7, 1}, {}} {
		g := guard(b)
		first, _, _ := impl.ReadBytes(g.slice, 0, 5)
		second, _, _ := impl.ReadBytes(g.slice, 0, 5)
		want := slices.Clone(second)
		scribble(first)
		g.check(t, "ReadBytes")
		if !bytes.Equal(second, want) {
			t.Errorf("ReadBytes(%v, 0, 5): two results share memory", b)
		}
	}
}

func TestReadBytesOfAppendBytes(t *testing.T) {
	for length := range 400 {
		s := counting(length)
		b := impl.AppendBytes([]byte{128, 0}, s)
		b = impl.AppendBytes(b, s)
		got, next, ok := impl.ReadBytes(b, 2, length)
		if !bytes.Equal(got, s) || !ok {
			t.Errorf("ReadBytes of AppendBytes of %v = %v, %d, %v", s, got, next, ok)
		}
		again, end, ok := impl.ReadBytes(b, next, length)
		if !bytes.Equal(again, s) || end != len(b) || !ok {
			t.Errorf("ReadBytes of the second AppendBytes of %v = %v, %d, %v", s, again, end, ok)
		}
		if s, next, ok := impl.ReadBytes(b, 2, length-1); len(s) != 0 || next != 0 || ok {
			t.Errorf("ReadBytes of at most %d of %d bytes = %v, %d, %v, want [], 0, false", length-1, length, s, next, ok)
		}
	}
}

func TestEncodeInts(t *testing.T) {
	cases := []struct {
		l    []int
		want []byte
	}{
		{nil, nil}, {[]int{}, nil},
		{[]int{0}, []byte{0}},
		{[]int{1, 300, 2}, []byte{1, 172, 2, 2}},
		{[]int{127, 128, 0}, []byte{127, 128, 1, 0}},
		{[]int{impl.MaxInt, 0, impl.MaxInt}, []byte{128, 160, 148, 165, 141, 29, 0, 128, 160, 148, 165, 141, 29}},
		// AppendVarint adds nothing for integers outside its range.
		{[]int{-1}, nil},
		{[]int{impl.MaxInt + 1}, nil},
		{[]int{5, -1, 6, impl.MaxInt + 1, 7}, []byte{5, 6, 7}},
		{notEncodable, nil},
	}
	for _, c := range cases {
		if got := impl.EncodeInts(c.l); !bytes.Equal(got, c.want) {
			t.Errorf("EncodeInts(%v) = %v, want %v", c.l, got, c.want)
		}
	}
}

func TestEncodeIntsLeavesItsArgument(t *testing.T) {
	for _, l := range [][]int{{}, {1, 300, -2, impl.MaxInt + 1}} {
		g := guard(l)
		first := impl.EncodeInts(g.slice)
		second := impl.EncodeInts(g.slice)
		want := slices.Clone(second)
		scribble(first)
		g.check(t, "EncodeInts")
		if !bytes.Equal(second, want) {
			t.Errorf("EncodeInts(%v): two results share memory", l)
		}
	}
}

func TestDecodeInts(t *testing.T) {
	cases := []struct {
		b     []byte
		at, n int
		want  []int
		next  int
	}{
		// No integers are decoded at every offset, even at the end.
		{nil, 0, 0, nil, 0}, {[]byte{}, 0, 0, nil, 0},
		{[]byte{5, 6}, 0, 0, nil, 0}, {[]byte{5, 6}, 1, 0, nil, 1}, {[]byte{5, 6}, 2, 0, nil, 2},
		{[]byte{128}, 0, 0, nil, 0}, {[]byte{128}, 1, 0, nil, 1},
		{[]byte{5}, 0, 1, []int{5}, 1},
		{[]byte{1, 172, 2, 2}, 0, 1, []int{1}, 1},
		{[]byte{1, 172, 2, 2}, 0, 2, []int{1, 300}, 3},
		{[]byte{1, 172, 2, 2}, 0, 3, []int{1, 300, 2}, 4},
		{[]byte{1, 172, 2, 2}, 1, 2, []int{300, 2}, 4},
		{[]byte{1, 172, 2, 2}, 2, 2, []int{2, 2}, 4},
		{[]byte{0, 0, 128, 160, 148, 165, 141, 29, 128}, 1, 2, []int{0, impl.MaxInt}, 8},
	}
	for _, c := range cases {
		if l, next, ok := impl.DecodeInts(c.b, c.at, c.n); !slices.Equal(l, c.want) || next != c.next || !ok {
			t.Errorf("DecodeInts(%v, %d, %d) = %v, %d, %v, want %v, %d, true", c.b, c.at, c.n, l, next, ok, c.want, c.next)
		}
	}
}

func TestDecodeIntsRejects(t *testing.T) {
	cases := []struct {
		b     []byte
		at, n int
	}{
		// Fewer than n.
		{nil, 0, 1}, {[]byte{}, 0, 1}, {[]byte{5, 6}, 0, 3}, {[]byte{5, 6}, 1, 2}, {[]byte{5, 6}, 2, 1}, {[]byte{1, 172, 2, 2}, 0, 4},
		// An integer that is not encoded properly is not one of them.
		{[]byte{5, 128}, 0, 2}, {[]byte{5, 128, 0}, 0, 2}, {[]byte{128, 0, 5}, 0, 1}, {[]byte{128, 128, 128, 128, 128, 128, 1}, 0, 1},
		{[]byte{5, 129, 160, 148, 165, 141, 29}, 0, 2},
		// n outside its range.
		{[]byte{5, 6}, 0, -1}, {nil, 0, -1}, {[]byte{5, 6}, 0, math.MinInt}, {[]byte{5, 6}, 0, math.MaxInt},
		// An offset outside the slice.
		{[]byte{5, 6}, -1, 0}, {[]byte{5, 6}, -1, 1}, {[]byte{5, 6}, 3, 0}, {[]byte{5, 6}, 3, 1}, {nil, 1, 0}, {nil, -1, 0},
		{[]byte{5, 6}, math.MinInt, 0}, {[]byte{5, 6}, math.MaxInt, 0}, {[]byte{5, 6}, math.MaxInt, 1},
	}
	for _, c := range cases {
		if l, next, ok := impl.DecodeInts(c.b, c.at, c.n); len(l) != 0 || next != 0 || ok {
			t.Errorf("DecodeInts(%v, %d, %d) = %v, %d, %v, want [], 0, false", c.b, c.at, c.n, l, next, ok)
		}
	}
}

func TestDecodeIntsTakesUpTo100(t *testing.T) {
	want := make([]int, 150)
	for i := range want {
		want[i] = i * i * i
	}
	b := impl.EncodeInts(want)
	for n := range 151 {
		l, next, ok := impl.DecodeInts(b, 0, n)
		if n > 100 {
			if len(l) != 0 || next != 0 || ok {
				t.Errorf("DecodeInts of %d integers = %v, %d, %v, want [], 0, false", n, l, next, ok)
			}
			continue
		}
		if end := len(impl.EncodeInts(want[:n])); !slices.Equal(l, want[:n]) || next != end || !ok {
			t.Errorf("DecodeInts of %d integers = %v, %d, %v, want %v, %d, true", n, l, next, ok, want[:n], end)
		}
	}
}

func TestDecodeIntsMakesNewMemory(t *testing.T) {
	b := guard([]byte{1, 172, 2, 2})
	for _, n := range []int{0, 2, 3, 4, 101} {
		first, _, _ := impl.DecodeInts(b.slice, 0, n)
		second, _, _ := impl.DecodeInts(b.slice, 0, n)
		want := slices.Clone(second)
		scribble(first)
		b.check(t, "DecodeInts")
		if !slices.Equal(second, want) {
			t.Errorf("DecodeInts of %d integers: two results share memory", n)
		}
	}
}

func TestEqualBytes(t *testing.T) {
	cases := []struct {
		a, b []byte
		want bool
	}{
		{nil, nil, true}, {nil, []byte{}, true}, {[]byte{}, []byte{}, true},
		{nil, []byte{0}, false}, {[]byte{}, []byte{0}, false},
		{[]byte{0}, []byte{0}, true}, {[]byte{0}, []byte{1}, false}, {[]byte{0}, []byte{0, 0}, false},
		{[]byte{1, 2, 3}, []byte{1, 2, 3}, true},
		{[]byte{1, 2, 3}, []byte{9, 2, 3}, false}, {[]byte{1, 2, 3}, []byte{1, 9, 3}, false}, {[]byte{1, 2, 3}, []byte{1, 2, 9}, false},
		{[]byte{1, 2, 3}, []byte{1, 2}, false}, {[]byte{1, 2, 3}, []byte{2, 3}, false}, {[]byte{1, 2}, []byte{2, 1}, false},
		{[]byte{127}, []byte{255}, false}, {[]byte{255}, []byte{255}, true},
		{[]byte("a"), []byte("A"), false},
	}
	for _, c := range cases {
		if got := impl.EqualBytes(c.a, c.b); got != c.want {
			t.Errorf("EqualBytes(%v, %v) = %v", c.a, c.b, got)
		}
		if got := impl.EqualBytes(c.b, c.a); got != c.want {
			t.Errorf("EqualBytes(%v, %v) = %v", c.b, c.a, got)
		}
	}
}

// Only the elements up to the length count.
func TestEqualBytesIgnoresSpareCapacity(t *testing.T) {
	a, b := guard([]byte{1, 2}), guard([]byte{1, 2, 3})
	if !impl.EqualBytes(a.slice, []byte{1, 2}) || impl.EqualBytes(a.slice, b.slice) || !impl.EqualBytes(a.slice, b.slice[:2]) {
		t.Error("EqualBytes compares more or less than the elements")
	}
	a.check(t, "EqualBytes")
	b.check(t, "EqualBytes")
}
