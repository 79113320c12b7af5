package slot_test

import (
	"bytes"
	"math"
	"math/rand"
	"testing"

	"thimblerig/api"
	"thimblerig/slot"
)

// eight is the level of the chapter's examples.
func eight() api.Level {
	return api.Level{Blocks: 8, Size: 4, High: 3, Width: 88}
}

func isNone(b api.Block) bool {
	return b.Id == 0 && b.Leaf == 0 && len(b.Data) == 0
}

// TestLevels is P9.1 and P9.2: levels that may be, and that may not; every call asks.
func TestLevels(t *testing.T) {
	for _, x := range []struct {
		blocks, size, high, width, slots int
	}{
		{8, 4, 3, 88, 2}, {8, 4, 3, 76, 1}, {8, 4, 3, 100, 3}, {8, 4, 3, 112, 4}, {1, 1, 1, 73, 1}, {1, 1, 6, 73, 1}, {64, 32, 6, 224, 4}, {64, 32, 6, 104, 1}, {5, 4, 3, 88, 2},
		{8, 4, 3, 64, 0}, {8, 4, 3, 124, 0}, {8, 4, 3, 87, 0}, {8, 4, 3, 89, 0}, {8, 4, 3, 0, 0}, {8, 4, 3, 52, 0}, {8, 4, 3, -12, 0}, {8, 4, 3, math.MinInt, 0}, {8, 4, 3, math.MaxInt, 0},
		{0, 4, 3, 88, 0}, {-1, 4, 3, 88, 0}, {65, 4, 6, 88, 0}, {9, 4, 3, 88, 0}, {64, 4, 5, 88, 0}, {2, 4, 0, 88, 0}, {2, 4, 7, 88, 0}, {2, 4, -1, 88, 0}, {2, 4, 64, 88, 0},
		{8, 0, 3, 80, 0}, {8, 33, 3, 64 + 41, 0}, {8, -4, 3, 72, 0}, {8, -8, 3, 64, 0}, {8, math.MinInt, 3, 88, 0}, {8, math.MaxInt, 3, 88, 0},
	} {
		l := api.Level{Blocks: x.blocks, Size: x.size, High: x.high, Width: x.width}
		want := api.OK
		if x.slots == 0 {
			want = api.ErrBad
		}
		if n, e := slot.Slots(l); n != x.slots || e != want {
			t.Error("Slots", x, n, e)
		}
		b := api.Block{Data: make([]byte, max(0, min(x.size, 100)))}
		if e := slot.Check(l, b); e != want {
			t.Error("Check", x, e)
		}
		if s, e := slot.Write(l, b); e != want || e != api.OK && len(s) != 0 || e == api.OK && len(s) != 8+x.size {
			t.Error("Write", x, s, e)
		}
		s, e := slot.None(l)
		if e != want || e != api.OK && len(s) != 0 || e == api.OK && !bytes.Equal(s, make([]byte, 8+x.size)) {
			t.Error("None", x, s, e)
		}
		if b, is, e := slot.Read(l, s); e != want || is || !isNone(b) {
			t.Error("Read", x, b, is, e)
		}
		if b, is, e := slot.Read(l, make([]byte, 300)); e == api.OK || want != api.OK && e != want || is || !isNone(b) {
			t.Error("Read of too many", x, b, is, e)
		}
	}
}

// TestBlocks is P9.1: blocks that may be, at their edges, and that may not.
func TestBlocks(t *testing.T) {
	odd := api.Level{Blocks: 5, Size: 4, High: 3, Width: 88}
	for _, x := range []struct {
		l              api.Level
		id, leaf, data int
		e              api.Errno
	}{
		{eight(), 0, 0, 4, api.OK}, {eight(), 7, 7, 4, api.OK}, {odd, 4, 7, 4, api.OK},
		{odd, 5, 7, 4, api.ErrBad}, {eight(), 8, 0, 4, api.ErrBad}, {eight(), -1, 0, 4, api.ErrBad}, {eight(), math.MinInt, 0, 4, api.ErrBad}, {eight(), math.MaxInt, 0, 4, api.ErrBad},
		{eight(), 0, 8, 4, api.ErrBad}, {eight(), 0, -1, 4, api.ErrBad}, {eight(), 0, math.MinInt, 4, api.ErrBad}, {eight(), 0, math.MaxInt, 4, api.ErrBad},
		{eight(), 0, 0, 3, api.ErrBad}, {eight(), 0, 0, 5, api.ErrBad}, {eight(), 0, 0, 0, api.ErrBad},
	} {
		b := api.Block{Id: x.id, Leaf: x.leaf, Data: make([]byte, x.data)}
		if e := slot.Check(x.l, b); e != x.e {
			t.Error("Check", x, e)
		}
		if s, e := slot.Write(x.l, b); e != x.e || e != api.OK && len(s) != 0 {
			t.Error("Write", x, s, e)
		}
	}
}

// TestWriteAndRead is P9.1 and P9.2, by the chapter's examples.
func TestWriteAndRead(t *testing.T) {
	l := eight()
	b := api.Block{Id: 2, Leaf: 5, Data: []byte("abcd")}
	s, e := slot.Write(l, b)
	if e != api.OK || !bytes.Equal(s, []byte("\x03\x00\x00\x00\x05\x00\x00\x00abcd")) {
		t.Fatal(s, e)
	}
	got, is, e := slot.Read(l, s)
	if e != api.OK || !is || !slot.Same(got, b) {
		t.Error(got, is, e)
	}
	clear(got.Data)
	s2, _ := slot.Write(l, b)
	clear(s)
	if string(b.Data) != "abcd" || string(s2[8:]) != "abcd" {
		t.Error("memory is shared:", b, s2)
	}
	got, _, _ = slot.Read(l, s2)
	clear(s2)
	if string(got.Data) != "abcd" {
		t.Error("a block shares its slot:", got)
	}
}

// TestReadRefuses is P9.2: wrong lengths, and slots of no block.
func TestReadRefuses(t *testing.T) {
	l := eight()
	for _, n := range []int{0, 11, 13, 24} {
		for _, with := range []byte{0, 1} {
			if b, is, e := slot.Read(l, bytes.Repeat([]byte{with}, n)); e != api.ErrShort || is || !isNone(b) {
				t.Error(n, b, is, e)
			}
		}
	}
	for _, x := range []struct {
		s  string
		id int
		e  api.Errno
	}{
		{"\x08\x00\x00\x00\x07\x00\x00\x00\x00\x00\x00\x00", 7, api.OK},
		{"\x01\x00\x00\x00\x00\x00\x00\x00\x00\x00\x00\x00", 0, api.OK},
		{"\x09\x00\x00\x00\x00\x00\x00\x00\x00\x00\x00\x00", 0, api.ErrBad},
		{"\x01\x01\x00\x00\x00\x00\x00\x00\x00\x00\x00\x00", 0, api.ErrBad},
		{"\x01\x00\x00\x01\x00\x00\x00\x00\x00\x00\x00\x00", 0, api.ErrBad},
		{"\xff\xff\xff\xff\x00\x00\x00\x00\x00\x00\x00\x00", 0, api.ErrBad},
		{"\x01\x00\x00\x00\x08\x00\x00\x00\x00\x00\x00\x00", 0, api.ErrBad},
		{"\x01\x00\x00\x00\x00\x00\x00\x80\x00\x00\x00\x00", 0, api.ErrBad},
		{"\x01\x00\x00\x00\xff\xff\xff\xff\x00\x00\x00\x00", 0, api.ErrBad},
		{"\x00\x00\x00\x00\x01\x00\x00\x00\x00\x00\x00\x00", 0, api.ErrBad},
		{"\x00\x00\x00\x00\x00\x00\x00\x00\x01\x00\x00\x00", 0, api.ErrBad},
		{"\x00\x00\x00\x00\x00\x00\x00\x00\x00\x00\x00\x01", 0, api.ErrBad},
	} {
		b, is, e := slot.Read(l, []byte(x.s))
		if e != x.e || is != (e == api.OK) || e != api.OK && !isNone(b) || b.Id != x.id {
			t.Errorf("%q: %v %v %d", x.s, b, is, e)
		}
	}
}

// TestSameAndTwin is P9.3, of any blocks.
func TestSameAndTwin(t *testing.T) {
	a := api.Block{Id: -5, Leaf: math.MaxInt, Data: []byte("ab")}
	for _, b := range []api.Block{{Id: -4, Leaf: math.MaxInt, Data: []byte("ab")}, {Id: -5, Leaf: 3, Data: []byte("ab")}, {Id: -5, Leaf: math.MaxInt, Data: []byte("ac")}, {Id: -5, Leaf: math.MaxInt, Data: []byte("abc")}, {Id: -5, Leaf: math.MaxInt}} {
		if slot.Same(a, b) || slot.Same(b, a) {
			t.Error("the same:", b)
		}
	}
	twin := slot.Twin(a)
	if !slot.Same(a, twin) || !slot.Same(api.Block{}, api.Block{Data: []byte{}}) || !isNone(slot.Twin(api.Block{})) {
		t.Error("not the same", twin)
	}
	clear(twin.Data)
	if string(a.Data) != "ab" {
		t.Error("a twin shares its data")
	}
}

// TestFollows is P9.4: a slot tells its block, in one way.
func TestFollows(t *testing.T) {
	r := rand.New(rand.NewSource(11))
	for range 3000 {
		size, high := 1+r.Intn(32), 1+r.Intn(6)
		l := api.Level{Blocks: 1 + r.Intn(1<<high), Size: size, High: high, Width: (1+r.Intn(4))*(8+size) + 64}
		b := api.Block{Id: r.Intn(l.Blocks), Leaf: r.Intn(1 << high), Data: make([]byte, size)}
		r.Read(b.Data)
		s, e := slot.Write(l, b)
		if e != api.OK {
			t.Fatal(l, b, e)
		}
		got, is, e := slot.Read(l, s)
		if e != api.OK || !is || !slot.Same(got, b) {
			t.Fatal(l, b, got, is, e)
		}
		s[r.Intn(8)] ^= byte(1 << r.Intn(8))
		kept := bytes.Clone(s)
		got, is, e = slot.Read(l, s)
		if !bytes.Equal(s, kept) {
			t.Fatal("Read turns its slot")
		}
		if e == api.OK && is {
			if again, e := slot.Write(l, got); e != api.OK || !bytes.Equal(again, s) {
				t.Fatal(l, s, got, again, e)
			}
		}
	}
}
