package evict_test

import (
	"math"
	"math/rand"
	"testing"

	"thimblerig/api"
	"thimblerig/evict"
	"thimblerig/geo"
	"thimblerig/slot"
	"thimblerig/stash"
)

// leaves is a stash of blocks of these leaves, their Ids in order.
func leaves(all ...int) []api.Block {
	var s []api.Block
	for id, leaf := range all {
		s = append(s, api.Block{Id: id, Leaf: leaf, Data: []byte{byte(10 + id)}})
	}
	return s
}

func level(high, slots int) api.Level {
	return api.Level{Blocks: 1 << high, Size: 1, High: high, Width: 9*slots + 64}
}

// ids are those of a row.
func ids(row []api.Block) []int {
	out := []int{}
	for _, b := range row {
		out = append(out, b.Id)
	}
	return out
}

func sameInts(a, b []int) bool {
	if len(a) != len(b) {
		return false
	}
	for i := range a {
		if a[i] != b[i] {
			return false
		}
	}
	return true
}

// TestExamples are those of the chapter and of the document.
func TestExamples(t *testing.T) {
	for i, x := range []struct {
		l      api.Level
		leaves []int
		leaf   int
		rows   [][]int
		rest   []int
	}{
		{level(2, 1), []int{1, 1, 0, 3}, 1, [][]int{{2}, {1}, {0}}, []int{3}},
		{api.Level{Blocks: 8, Size: 1, High: 3, Width: 73}, []int{2, 2, 0, 6, 4}, 2, [][]int{{3}, {2}, {1}, {0}}, []int{4}},
		{level(2, 1), []int{1, 1, 0}, 1, [][]int{{2}, {1}, {0}}, nil},
		{level(2, 2), []int{1, 1, 0, 3}, 1, [][]int{{3}, {2}, {0, 1}}, nil},
		{level(2, 2), []int{3, 3, 3, 3}, 0, [][]int{{0, 1}, {}, {}}, []int{2, 3}},
		{level(1, 4), nil, 1, [][]int{{}, {}}, nil},
		{level(2, 1), []int{0, 1, 2, 3}, 3, [][]int{{0}, {2}, {3}}, []int{1}},
	} {
		rows, rest, e := evict.Fill(x.l, leaves(x.leaves...), x.leaf)
		if e != api.OK || len(rows) != len(x.rows) || !sameInts(ids(rest), x.rest) {
			t.Error(i, rows, rest, e)
			continue
		}
		for row := range rows {
			if !sameInts(ids(rows[row]), x.rows[row]) {
				t.Error(i, row, rows)
			}
		}
	}
	five := api.Level{Blocks: 4, Size: 1, High: 2, Width: 73}
	if rows, rest, e := evict.Fill(five, leaves(1, 1, 0, 3, 2), 1); e != api.ErrBad || len(rows) != 0 || len(rest) != 0 {
		t.Error("there is no block 4:", e)
	}
}

// TestRefuses is P17.1: the stash's error first, then the leaf.
func TestRefuses(t *testing.T) {
	l := level(2, 1)
	bad := l
	bad.Width = 74
	back := leaves(1, 1)
	back[0].Id = 3
	for i, x := range []struct {
		l    api.Level
		s    []api.Block
		leaf int
		e    api.Errno
	}{
		{bad, nil, 0, api.ErrBad}, {bad, nil, 9, api.ErrBad}, {api.Level{}, nil, 0, api.ErrBad}, {l, back, 0, api.ErrBad}, {l, back, -1, api.ErrBad}, {l, leaves(1, 4), 0, api.ErrBad},
		{l, nil, 4, api.ErrArg}, {l, nil, -1, api.ErrArg}, {l, leaves(1), math.MaxInt, api.ErrArg}, {l, leaves(1), math.MinInt, api.ErrArg},
	} {
		if rows, rest, e := evict.Fill(x.l, x.s, x.leaf); e != x.e || len(rows) != 0 || len(rest) != 0 {
			t.Error(i, rows, rest, e)
		}
	}
}

// TestMemory is P17.2.
func TestMemory(t *testing.T) {
	s := leaves(1, 1, 0, 3)
	rows, rest, _ := evict.Fill(level(2, 1), s, 1)
	for _, row := range append(rows, rest) {
		for _, b := range append(row, api.Block{}) {
			clear(b.Data)
		}
		clear(row)
	}
	if !stash.Same(s, leaves(1, 1, 0, 3)) {
		t.Error("memory is shared:", s)
	}
	rows, rest, _ = evict.Fill(level(2, 2), leaves(1, 1, 3, 3, 3, 3)[:4], 1)
	rows[2] = append(rows[2], api.Block{Id: 99})
	if !sameInts(ids(rows[0]), []int{2, 3}) || len(rest) != 0 {
		t.Error("a row reaches another one", rows, rest)
	}
}

// most is how many blocks can be put into rows, each of so many slots: a matching by paths that are made longer.
func most(l api.Level, s []api.Block, leaf, slots int) int {
	places := make([]int, (l.High+1)*slots)
	for i := range places {
		places[i] = -1
	}
	var seen []bool
	var put func(block int) bool
	put = func(block int) bool {
		deep, _ := geo.Deep(l.High, s[block].Leaf, leaf)
		for place := 0; place < (deep+1)*slots; place++ {
			if seen[place] {
				continue
			}
			seen[place] = true
			if places[place] < 0 || put(places[place]) {
				places[place] = block
				return true
			}
		}
		return false
	}
	many := 0
	for block := range s {
		seen = make([]bool, len(places))
		if put(block) {
			many++
		}
	}
	return many
}

// TestFollows is P17.1 and P17.3, of stashes of all kinds: the parting as the chapter says, full rows, and none that leaves fewer.
func TestFollows(t *testing.T) {
	r := rand.New(rand.NewSource(20))
	for range 2000 {
		high, slots := 1+r.Intn(5), 1+r.Intn(4)
		l := level(high, slots)
		var s []api.Block
		near := r.Intn(1 << high)
		for id := range l.Blocks {
			if r.Intn(2) == 0 {
				leaf := r.Intn(1 << high)
				if r.Intn(2) == 0 {
					leaf = near
				}
				s = append(s, api.Block{Id: id, Leaf: leaf, Data: []byte{byte(r.Int())}})
			}
		}
		leaf := near ^ r.Intn(2)
		rows, rest, e := evict.Fill(l, s, leaf)
		if e != api.OK || len(rows) != high+1 || stash.Check(l, rest) != api.OK {
			t.Fatal(l, s, leaf, e)
		}
		var all []api.Block
		for row, blocks := range rows {
			if len(blocks) > slots || stash.Check(l, blocks) != api.OK {
				t.Fatal(rows)
			}
			for _, b := range blocks {
				if deep, _ := geo.Deep(high, b.Leaf, leaf); deep < row {
					t.Fatal("a block is too deep", b, row)
				}
			}
			all, e = stash.Add(l, all, blocks)
			if e != api.OK {
				t.Fatal("a block stands twice", rows)
			}
		}
		all, e = stash.Add(l, all, rest)
		if e != api.OK || !stash.Same(all, s) {
			t.Fatal("a block is lost, or doubled", rows, rest)
		}
		for _, b := range rest {
			deep, _ := geo.Deep(high, b.Leaf, leaf)
			for row := range deep + 1 {
				if len(rows[row]) < slots {
					t.Fatal("a row has room for one of the rest", row, b)
				}
			}
		}
		if len(s)-len(rest) != most(l, s, leaf, slots) {
			t.Fatal("another way leaves fewer", len(rest))
		}
		asTold(t, l, s, leaf, slots, rows, rest)
	}
}

// asTold holds rows against the chapter's words: row by row from the deepest, the first blocks that are left and may be there.
func asTold(t *testing.T, l api.Level, s []api.Block, leaf, slots int, rows [][]api.Block, rest []api.Block) {
	taken := map[int]int{}
	for row := l.High; row >= 0; row-- {
		at := 0
		for _, b := range s {
			deep, _ := geo.Deep(l.High, b.Leaf, leaf)
			if taken[b.Id] == 0 && deep >= row && at < slots {
				if at >= len(rows[row]) || !slot.Same(rows[row][at], b) {
					t.Fatal("another block stands there", row, rows)
				}
				taken[b.Id]++
				at++
			}
		}
		if at != len(rows[row]) {
			t.Fatal("too many", rows)
		}
	}
	if len(taken)+len(rest) != len(s) {
		t.Fatal(rest)
	}
}
