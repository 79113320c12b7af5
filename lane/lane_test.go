package lane_test

import (
	"bytes"
	"math"
	"math/rand"
	"slices"
	"testing"

	"thimblerig/api"
	"thimblerig/lane"
	"thimblerig/stream"
)

func isNone(s api.Source) bool {
	return s.Kind == 0 && s.Key == api.Key{} && len(s.Pad) == 0 && s.Width == 0
}

func pad(text string, width int) api.Source {
	return api.Source{Kind: api.FromPad, Pad: []byte(text), Width: width}
}

func chacha(first byte) api.Source {
	return api.Source{Kind: api.FromChacha, Key: api.Key{first}}
}

// TestLanesThatMayBe is P5.1: Check, Left, and the error of Two.
func TestLanesThatMayBe(t *testing.T) {
	for _, x := range []struct {
		cells, at int
		e         api.Errno
		left      int
	}{
		{0, 0, api.OK, 0}, {1, 0, api.OK, 1}, {1, 1, api.OK, 0}, {3, 1, api.OK, 2},
		{api.MaxCells, 0, api.OK, api.MaxCells}, {api.MaxCells, api.MaxCells, api.OK, 0}, {api.MaxCells, 4, api.OK, api.MaxCells - 4},
		{api.MaxCells + 1, 0, api.ErrBad, 0}, {2, 3, api.ErrBad, 0}, {0, 1, api.ErrBad, 0}, {5, -1, api.ErrBad, 0},
		{5, math.MinInt, api.ErrBad, 0}, {5, math.MaxInt, api.ErrBad, 0},
	} {
		l := api.Lane{Cells: make([]uint32, x.cells), At: x.at}
		if e := lane.Check(l); e != x.e {
			t.Error("Check", x, e)
		}
		if left := lane.Left(l); left != x.left {
			t.Error("Left", x, left)
		}
		want := x.e
		if want == api.OK && x.left < 2 {
			want = api.ErrEntropy
		}
		out, a, b, e := lane.Two(l)
		if e != want || e != api.OK && (len(out.Cells) != 0 || out.At != 0 || a != 0 || b != 0) {
			t.Error("Two", x, out.At, a, b, e)
		}
	}
}

// TestTwo is P5.1, P5.3 and P5.4: two cells, in order, each once, in new memory.
func TestTwo(t *testing.T) {
	l := api.Lane{Cells: []uint32{5, 6, math.MaxUint32, 8, 9}}
	one, a, b, e := lane.Two(l)
	if e != api.OK || a != 5 || b != 6 || one.At != 2 || !slices.Equal(one.Cells, l.Cells) {
		t.Fatal(one, a, b, e)
	}
	two, a, b, e := lane.Two(one)
	if e != api.OK || a != math.MaxUint32 || b != 8 || two.At != 4 || lane.Left(two) != 1 {
		t.Fatal(two, a, b, e)
	}
	if _, _, _, e := lane.Two(two); e != api.ErrEntropy {
		t.Error(e)
	}
	if l.At != 0 || one.At != 2 {
		t.Error("a lane is turned:", l, one)
	}
	two.Cells[0] = 99
	if l.Cells[0] != 5 || one.Cells[0] != 5 {
		t.Error("cells are shared:", l, one)
	}
}

// TestAsks is P5.2: sources that may be, and that may not; every call asks.
func TestAsks(t *testing.T) {
	for i, x := range []struct {
		s api.Source
		e api.Errno
	}{
		{pad("", 1), api.OK}, {pad("abc", 2), api.OK}, {pad("abc", api.MaxStream), api.OK},
		{api.Source{Kind: api.FromPad, Pad: make([]byte, api.MaxPad), Width: 9}, api.OK},
		{api.Source{Kind: api.FromPad, Pad: make([]byte, api.MaxPad+1), Width: 9}, api.ErrBad},
		{pad("abc", 0), api.ErrBad}, {pad("abc", -1), api.ErrBad}, {pad("abc", api.MaxStream+1), api.ErrBad}, {pad("abc", math.MinInt), api.ErrBad},
		{api.Source{Kind: api.FromPad, Key: api.Key{31: 1}, Pad: []byte("abc"), Width: 1}, api.ErrBad},
		{chacha(0), api.OK}, {chacha(5), api.OK},
		{api.Source{Kind: api.FromChacha, Pad: []byte{0}}, api.ErrBad}, {api.Source{Kind: api.FromChacha, Width: 1}, api.ErrBad}, {api.Source{Kind: api.FromChacha, Width: -1}, api.ErrBad},
		{api.Source{}, api.ErrBad}, {api.Source{Kind: 3}, api.ErrBad}, {api.Source{Kind: 255, Pad: []byte("abc"), Width: 1}, api.ErrBad}, {api.Source{Kind: 0, Pad: []byte("abc"), Width: 1}, api.ErrBad},
	} {
		if e := lane.Asks(x.s); e != x.e {
			t.Error("Asks", i, e)
		}
		if x.e == api.OK {
			continue
		}
		if b, e := lane.Of(x.s, math.MaxUint64, -1); e != x.e || len(b) != 0 {
			t.Error("Of", i, b, e)
		}
		if lane.Covers(x.s, 0, 0) {
			t.Error("Covers", i)
		}
		if s, e := lane.Spread(x.s, -1, 0); e != x.e || !isNone(s) {
			t.Error("Spread", i, e)
		}
	}
}

// TestOfPad is P5.2: a number's stream stands behind those of the numbers below it.
func TestOfPad(t *testing.T) {
	s := pad("abcdefg", 2)
	for n, want := range []string{"ab", "cd", "ef"} {
		for many := range 3 {
			if b, e := lane.Of(s, uint64(n), many); e != api.OK || string(b) != want[:many] {
				t.Error(n, many, b, e)
			}
		}
	}
	for _, x := range []struct {
		n    uint64
		many int
		e    api.Errno
	}{
		{0, 3, api.ErrMany}, {0, -1, api.ErrMany}, {9, 3, api.ErrMany}, {0, math.MaxInt, api.ErrMany}, {0, math.MinInt, api.ErrMany},
		{3, 0, api.ErrEntropy}, {3, 1, api.ErrEntropy}, {1 << 62, 2, api.ErrEntropy}, {1 << 63, 2, api.ErrEntropy}, {math.MaxUint64, 2, api.ErrEntropy},
	} {
		if b, e := lane.Of(s, x.n, x.many); e != x.e || len(b) != 0 {
			t.Error(x, b, e)
		}
	}
	b, _ := lane.Of(s, 0, 2)
	clear(b)
	b = append(b, 1, 2, 3)
	if string(s.Pad) != "abcdefg" {
		t.Error("a stream shares the pad:", s.Pad)
	}
}

// TestOfChacha is P5.2: ChaCha's streams, up to MaxStream bytes, of each number.
func TestOfChacha(t *testing.T) {
	for _, n := range []uint64{0, 1, math.MaxUint64} {
		for _, many := range []int{0, 1, 65, api.MaxStream} {
			want, _ := stream.Of(api.Key{7}, n, many)
			if b, e := lane.Of(chacha(7), n, many); e != api.OK || !bytes.Equal(b, want) {
				t.Error(n, many, e)
			}
		}
	}
	for _, many := range []int{-1, api.MaxStream + 1} {
		if b, e := lane.Of(chacha(7), 0, many); e != api.ErrMany || len(b) != 0 {
			t.Error(many, e)
		}
	}
}

// TestCovers is P5.2, at a pad's end and at the end of all numbers.
func TestCovers(t *testing.T) {
	for _, x := range []struct {
		s    api.Source
		from uint64
		many int
		is   bool
	}{
		{pad("abcdef", 2), 1, 2, true}, {pad("abcdef", 2), 1, 3, false}, {pad("abcdef", 2), 0, 3, true}, {pad("abcdef", 2), 3, 0, true}, {pad("abcdef", 2), 3, 1, false},
		{pad("abcdefg", 2), 3, 1, false}, {pad("abcdef", 2), math.MaxUint64, 0, true}, {pad("abcdef", 2), math.MaxUint64, 1, false}, {pad("abcdef", 2), math.MaxUint64, 2, false},
		{pad("abcdef", 2), math.MaxUint64, 3, false}, {pad("abcdef", 2), math.MaxUint64 - 1, math.MaxInt, false}, {pad("", 1), 0, 0, true}, {pad("", 1), 0, 1, false}, {pad("abcdef", 2), 0, -1, false},
		{chacha(1), 0, 0, true}, {chacha(1), 0, math.MaxInt, true}, {chacha(1), math.MaxUint64, 0, true}, {chacha(1), math.MaxUint64, 1, true}, {chacha(1), math.MaxUint64, 2, false},
		{chacha(1), math.MaxUint64 - 4, 5, true}, {chacha(1), math.MaxUint64 - 4, 6, false}, {chacha(1), 5, -1, false}, {chacha(1), 5, math.MinInt, false},
		{api.Source{}, 0, 0, false},
	} {
		if is := lane.Covers(x.s, x.from, x.many); is != x.is {
			t.Error(x.s.Kind, string(x.s.Pad), x.from, x.many, is)
		}
	}
}

// TestSpread is P5.3 and P5.4: a pad has a source's streams, or the first error.
func TestSpread(t *testing.T) {
	for _, x := range []struct {
		s           api.Source
		many, width int
		pad         string
		e           api.Errno
	}{
		{pad("abcdefg", 2), 3, 2, "abcdef", api.OK}, {pad("abcdefg", 2), 3, 1, "ace", api.OK}, {pad("abcdefg", 2), 2, 1, "ac", api.OK}, {pad("abcdefg", 2), 0, 2, "", api.OK},
		{pad("abcdefg", 2), 0, api.MaxStream, "", api.OK}, {pad("abcdefg", 2), 4, 2, "", api.ErrEntropy}, {pad("abcdefg", 2), 1, 3, "", api.ErrMany}, {pad("abcdefg", 2), 4, 3, "", api.ErrMany},
		{pad("", 2), 1, 2, "", api.ErrEntropy}, {pad("", 2), 1, 3, "", api.ErrMany},
		{pad("abcdefg", 2), 1, 0, "", api.ErrArg}, {pad("abcdefg", 2), 1, -1, "", api.ErrArg}, {pad("abcdefg", 2), 1, api.MaxStream + 1, "", api.ErrArg}, {pad("abcdefg", 2), -1, 1, "", api.ErrArg},
		{pad("abcdefg", 2), api.MaxPad + 1, 1, "", api.ErrArg}, {pad("abcdefg", 2), math.MaxInt, 2, "", api.ErrArg}, {pad("abcdefg", 2), math.MaxInt/2 + 2, 2, "", api.ErrArg}, {pad("abcdefg", 2), api.MaxPad, 1, "", api.ErrEntropy},
		{pad("abcdefg", 2), math.MinInt, 1, "", api.ErrArg}, {chacha(3), 513, api.MaxStream, "", api.ErrArg}, {chacha(3), api.MaxPad/3 + 1, 3, "", api.ErrArg},
	} {
		s, e := lane.Spread(x.s, x.many, x.width)
		if e != x.e || string(s.Pad) != x.pad || e != api.OK && !isNone(s) || e == api.OK && (s.Kind != api.FromPad || s.Width != x.width || s.Key != api.Key{}) {
			t.Error(string(x.s.Pad), x.many, x.width, s.Kind, s.Width, string(s.Pad), e)
		}
	}
	most, e := lane.Spread(chacha(3), 512, api.MaxStream)
	if e != api.OK || len(most.Pad) != api.MaxPad || lane.Asks(most) != api.OK {
		t.Error(len(most.Pad), e)
	}
	from := pad("abcd", 2)
	s, _ := lane.Spread(from, 2, 2)
	clear(s.Pad)
	if string(from.Pad) != "abcd" {
		t.Error("pads are shared")
	}
}

// TestFollows is P5.4, of lanes and sources of all kinds.
func TestFollows(t *testing.T) {
	r := rand.New(rand.NewSource(8))
	for range 200 {
		l := api.Lane{Cells: make([]uint32, r.Intn(40))}
		for i := range l.Cells {
			l.Cells[i] = r.Uint32()
		}
		var taken []uint32
		for now := l; ; {
			next, a, b, e := lane.Two(now)
			if e != api.OK {
				break
			}
			taken = append(taken, a, b)
			now = next
		}
		if !slices.Equal(taken, l.Cells[:len(l.Cells)/2*2]) {
			t.Fatal(taken, l)
		}
		s := chacha(byte(r.Int()))
		if r.Intn(2) == 0 {
			s = pad(string(make([]byte, r.Intn(400))), 1+r.Intn(20))
			r.Read(s.Pad)
		}
		many, width := r.Intn(20), 1+r.Intn(20)
		spread, e := lane.Spread(s, many, width)
		if e != api.OK {
			continue
		}
		for n := range uint64(many) {
			want, e1 := lane.Of(s, n, width)
			got, e2 := lane.Of(spread, n, width)
			if e1 != api.OK || e2 != api.OK || !bytes.Equal(got, want) {
				t.Fatal(n, got, want, e1, e2)
			}
		}
		if !lane.Covers(spread, 0, many) || lane.Covers(spread, 0, many+1) {
			t.Fatal("a pad of other numbers")
		}
	}
}
