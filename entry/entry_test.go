package entry_test

import (
	"bytes"
	"math"
	"math/rand"
	"testing"

	"thimblerig/api"
	"thimblerig/entry"
)

// TestExamples are those of the chapter.
func TestExamples(t *testing.T) {
	if leaf, e := entry.Leaf(2, 7); leaf != 3 || e != api.OK {
		t.Error(leaf, e)
	}
	if b, e := entry.Write(2, 4); e != api.OK || !bytes.Equal(b, []byte{4, 0, 0, 0}) {
		t.Error(b, e)
	}
	if b, e := entry.Write(2, 5); e != api.ErrBad || len(b) != 0 {
		t.Error(b, e)
	}
	b, e := entry.Put(2, make([]byte, 8), 1, 2)
	if e != api.OK || !bytes.Equal(b, []byte{0, 0, 0, 0, 2, 0, 0, 0}) {
		t.Error(b, e)
	}
	if n, e := entry.Read(2, b, 1); n != 2 || e != api.OK {
		t.Error(n, e)
	}
	if n, e := entry.Read(2, b, 2); n != 0 || e != api.ErrArg {
		t.Error(n, e)
	}
}

// TestHeights is P19.1 and P19.2: what is no height comes first.
func TestHeights(t *testing.T) {
	for _, high := range []int{0, 7, -1, 64, math.MinInt, math.MaxInt} {
		if n, e := entry.Leaf(high, 3); n != 0 || e != api.ErrArg {
			t.Error(high, n, e)
		}
		if e := entry.Check(high, -1); e != api.ErrArg {
			t.Error(high, e)
		}
		if b, e := entry.Write(high, -1); len(b) != 0 || e != api.ErrArg {
			t.Error(high, b, e)
		}
		if n, e := entry.Read(high, bytes.Repeat([]byte{255}, 8), 0); n != 0 || e != api.ErrArg {
			t.Error(high, n, e)
		}
		if b, e := entry.Put(high, make([]byte, 8), 0, -1); len(b) != 0 || e != api.ErrArg {
			t.Error(high, b, e)
		}
	}
}

// TestLeaf is P19.1 and P19.4: each leaf is that of as many cells.
func TestLeaf(t *testing.T) {
	for high := 1; high <= 6; high++ {
		for cell := range uint32(300) {
			if leaf, e := entry.Leaf(high, cell); leaf != int(cell)%(1<<high) || e != api.OK {
				t.Fatal(high, cell, leaf, e)
			}
		}
		for _, from := range []uint32{0, 12345, math.MaxUint32 - 1023} {
			many := map[int]int{}
			for i := range uint32(1024) {
				leaf, _ := entry.Leaf(high, from+i)
				many[leaf]++
			}
			for leaf := range 1 << high {
				if many[leaf] != 1024>>high {
					t.Fatal(high, many)
				}
			}
		}
	}
	if leaf, e := entry.Leaf(6, math.MaxUint32); leaf != 63 || e != api.OK {
		t.Error(leaf, e)
	}
}

// TestPositions is P19.1 and P19.2, of all heights: which may be, and their bytes.
func TestPositions(t *testing.T) {
	for high := 1; high <= 6; high++ {
		for position := -3; position < 2<<high+3; position++ {
			want := api.OK
			if position < 0 || position > 1<<high {
				want = api.ErrBad
			}
			if e := entry.Check(high, position); e != want {
				t.Fatal(high, position, e)
			}
			b, e := entry.Write(high, position)
			if e != want || e != api.OK && len(b) != 0 || e == api.OK && !bytes.Equal(b, []byte{byte(position), 0, 0, 0}) {
				t.Fatal(high, position, b, e)
			}
			block, e := entry.Put(high, make([]byte, 12), 2, position)
			if e != want || e != api.OK && len(block) != 0 || e == api.OK && !bytes.Equal(block, append(make([]byte, 8), b...)) {
				t.Fatal(high, position, block, e)
			}
			if position >= 0 {
				n, e := entry.Read(high, []byte{0, 0, 0, 0, byte(position), 0, 0, 0}, 1)
				if e != want || e != api.OK && n != 0 || e == api.OK && n != position {
					t.Fatal(high, position, n, e)
				}
			}
		}
		for _, position := range []int{math.MinInt, math.MaxInt, 1 << 32, 1<<32 + 1, 1 << 8} {
			if e := entry.Check(high, position); e != api.ErrBad {
				t.Error(high, position, e)
			}
			if b, e := entry.Put(high, make([]byte, 12), 2, position); e != api.ErrBad || len(b) != 0 {
				t.Error(high, position, b, e)
			}
		}
		for _, b := range []string{"\x01\x01\x00\x00", "\x00\x00\x01\x00", "\x00\x00\x00\x80", "\xff\xff\xff\xff"} {
			if n, e := entry.Read(high, []byte(b+"\x00\x00\x00\x00"), 0); e != api.ErrBad || n != 0 {
				t.Error(high, n, e)
			}
		}
	}
}

// TestBlocks is P19.2: blocks that may be a map's, and places of them.
func TestBlocks(t *testing.T) {
	for size := range 40 {
		for place := -2; place < 12; place++ {
			want := api.OK
			if size%4 != 0 || size < 8 || size > 32 || place < 0 || place >= size/4 {
				want = api.ErrArg
			}
			if n, e := entry.Read(3, make([]byte, size), place); n != 0 || e != want {
				t.Error(size, place, n, e)
			}
			if b, e := entry.Put(3, make([]byte, size), place, 8); e != want || (e == api.OK) != (len(b) == size && size > 0 && b[4*place] == 8) {
				t.Error(size, place, b, e)
			}
			if b, e := entry.Put(3, make([]byte, size), place, 9); len(b) != 0 || e == api.OK || want == api.ErrArg && e != api.ErrArg {
				t.Error(size, place, b, e)
			}
		}
	}
	for _, place := range []int{math.MinInt, math.MaxInt, 1 << 62, 1<<62 + 1} {
		if _, e := entry.Read(3, make([]byte, 8), place); e != api.ErrArg {
			t.Error(place, e)
		}
		if _, e := entry.Put(3, make([]byte, 8), place, 0); e != api.ErrArg {
			t.Error(place, e)
		}
	}
}

// TestFollows is P19.3 and P19.4: what was put is read, all other places stay, and nothing is shared.
func TestFollows(t *testing.T) {
	r := rand.New(rand.NewSource(24))
	for range 1000 {
		high, many := 1+r.Intn(6), 2+r.Intn(7)
		block := make([]byte, 4*many)
		r.Read(block)
		kept := bytes.Clone(block)
		place, position := r.Intn(many), r.Intn(1<<high+1)
		out, e := entry.Put(high, block, place, position)
		if e != api.OK || !bytes.Equal(block, kept) {
			t.Fatal(e)
		}
		if n, e := entry.Read(high, out, place); n != position || e != api.OK {
			t.Fatal(n, position, e)
		}
		for other := range many {
			if other != place && !bytes.Equal(out[4*other:4*other+4], kept[4*other:4*other+4]) {
				t.Fatal("another place is turned")
			}
		}
		clear(out)
		if !bytes.Equal(block, kept) {
			t.Fatal("memory is shared")
		}
	}
}
