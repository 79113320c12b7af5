package order_test

import (
	"math"
	"math/rand"
	"slices"
	"testing"

	"thimblerig/api"
	"thimblerig/conf"
	"thimblerig/entry"
	"thimblerig/order"
	"thimblerig/rec"
)

// two is the config of chapter 18's examples.
func two() api.Config {
	return api.Config{Pages: 2, Size: 1, Fan: 2, Slots: 1, Stash: 2, Frames: 1, Clients: 1, Queue: 1, Top: 2}
}

// eight is the config of chapter 8's examples, of three levels.
func eight() api.Config {
	return api.Config{Pages: 8, Size: 4, Fan: 2, Slots: 2, Stash: 64, Frames: 2, Clients: 2, Queue: 4, Top: 2}
}

// sixty is a config of 64 pages, and four levels of 64, 32, 16 and 8 blocks.
func sixty() api.Config {
	return api.Config{Pages: 64, Size: 1, Fan: 2, Slots: 4, Stash: 64, Frames: 1, Clients: 1, Queue: 1, Top: 8}
}

func fetch(page int) api.Unit { return api.Unit{Kind: api.UnitFetch, Page: page} }

func write(c api.Config, page int) api.Unit {
	return api.Unit{Kind: api.UnitWrite, Page: page, Data: make([]byte, c.Size), Frame: -3}
}

func same(a, b [][]int) bool {
	return slices.EqualFunc(a, b, slices.Equal)
}

// unitsOf are units of all kinds.
func unitsOf(r *rand.Rand, c api.Config, many int) []api.Unit {
	var out []api.Unit
	for range many {
		out = append(out, []api.Unit{{}, fetch(r.Intn(c.Pages)), write(c, r.Intn(c.Pages))}[r.Intn(3)])
	}
	return out
}

// TestExamples are those of the chapter, and some of three levels.
func TestExamples(t *testing.T) {
	for i, x := range []struct {
		c           api.Config
		l           []api.Unit
		cells, perm [][]int
	}{
		{two(), []api.Unit{fetch(1), {}, write(two(), 1)}, [][]int{{1, 3, 0}}, [][]int{{1, 2, 3, 4, 0, 5}}},
		{two(), nil, [][]int{{}}, [][]int{{}}},
		{two(), []api.Unit{{}}, [][]int{{1}}, [][]int{{1, 0}}},
		{two(), []api.Unit{{}, {}}, [][]int{{1, 3}}, [][]int{{1, 0, 3, 2}}},
		{two(), []api.Unit{fetch(0), fetch(0), fetch(0)}, [][]int{{1, 0, 2}}, [][]int{{1, 3, 0, 4, 2, 5}}},
		{eight(), []api.Unit{fetch(0), fetch(1), write(eight(), 2), fetch(7), fetch(6), fetch(0)},
			[][]int{{1, 3, 5, 7, 9, 0}, {1, 0, 5, 7, 6, 2}, {1, 0, 2, 7, 6, 4}},
			[][]int{{1, 2, 3, 4, 5, 6, 7, 8, 9, 10, 0, 11}, {1, 3, 0, 4, 5, 8, 7, 9, 6, 10, 2, 11}, {1, 3, 0, 5, 2, 8, 7, 9, 6, 10, 4, 11}}},
	} {
		if cells, e := order.Cells(x.c, x.l); e != api.OK || !same(cells, x.cells) {
			t.Error("Cells", i, cells, e)
		}
		if perm, e := order.Perm(x.c, x.l); e != api.OK || !same(perm, x.perm) {
			t.Error("Perm", i, perm, e)
		}
	}
	put, e := order.Apply([]int{1, 2, 3, 4, 0, 5}, []uint32{'a', 'b', 'c', 'd', 'e', 'f'})
	if e != api.OK || !slices.Equal(put, []uint32{'b', 'c', 'd', 'e', 'a', 'f'}) {
		t.Error(put, e)
	}
	back, e := order.Undo([]int{1, 2, 3, 4, 0, 5}, put)
	if e != api.OK || !slices.Equal(back, []uint32{'a', 'b', 'c', 'd', 'e', 'f'}) {
		t.Error(back, e)
	}
}

// TestRefuses is P21.1: config, then how many, then each unit.
func TestRefuses(t *testing.T) {
	bad := two()
	bad.Pages = 65
	none := func(n int) []api.Unit { return make([]api.Unit, n) }
	for i, x := range []struct {
		c api.Config
		l []api.Unit
		e api.Errno
	}{
		{two(), none(512), api.OK}, {two(), []api.Unit{{Frame: -1}, fetch(1), {Kind: api.UnitFetch, Frame: 99}, {Kind: api.UnitWrite, Page: 1, Data: []byte{1}}}, api.OK},
		{bad, nil, api.ErrBad}, {bad, append(none(513), api.Unit{Kind: 9}), api.ErrBad},
		{two(), none(513), api.ErrMany}, {two(), append(none(512), api.Unit{Kind: 9}), api.ErrMany},
		{two(), append(none(511), api.Unit{Kind: 3}), api.ErrArg}, {two(), []api.Unit{{Kind: 255}}, api.ErrArg}, {two(), []api.Unit{{Page: 1}}, api.ErrArg}, {two(), []api.Unit{{Page: -1}}, api.ErrArg}, {two(), []api.Unit{{Data: []byte{1}}}, api.ErrArg},
		{two(), []api.Unit{fetch(2)}, api.ErrArg}, {two(), []api.Unit{fetch(-1)}, api.ErrArg}, {two(), []api.Unit{fetch(math.MinInt)}, api.ErrArg}, {two(), []api.Unit{{Kind: api.UnitFetch, Data: []byte{1}}}, api.ErrArg},
		{two(), []api.Unit{{Kind: api.UnitWrite}}, api.ErrArg}, {two(), []api.Unit{{Kind: api.UnitWrite, Data: []byte{1, 2}}}, api.ErrArg}, {two(), []api.Unit{write(two(), 2)}, api.ErrArg}, {two(), []api.Unit{write(two(), -1)}, api.ErrArg},
	} {
		cells, e := order.Cells(x.c, x.l)
		if e != x.e || (e == api.OK) != (len(cells) == 1) {
			t.Error("Cells", i, e)
		}
		perm, e := order.Perm(x.c, x.l)
		if e != x.e || (e == api.OK) != (len(perm) == 1) {
			t.Error("Perm", i, e)
		}
	}
}

// TestApplyRefuses is P21.2: how many, then whether it is an order, of as many cells.
func TestApplyRefuses(t *testing.T) {
	rising := func(n int) []int {
		var out []int
		for i := range n {
			out = append(out, i)
		}
		return out
	}
	for i, x := range []struct {
		perm  []int
		cells int
		e     api.Errno
	}{
		{nil, 0, api.OK}, {rising(1), 1, api.OK}, {rising(1024), 1024, api.OK}, {[]int{2, 0, 1}, 3, api.OK},
		{rising(1025), 1025, api.ErrMany}, {make([]int, 1025), 0, api.ErrMany},
		{[]int{1}, 1, api.ErrArg}, {[]int{-1}, 1, api.ErrArg}, {[]int{0, 0}, 2, api.ErrArg}, {[]int{0, 2}, 2, api.ErrArg}, {[]int{1, 2, 3}, 3, api.ErrArg}, {[]int{math.MaxInt, 0}, 2, api.ErrArg}, {[]int{math.MinInt, 0}, 2, api.ErrArg},
		{rising(2), 1, api.ErrArg}, {rising(2), 3, api.ErrArg}, {nil, 1, api.ErrArg}, {rising(1), 0, api.ErrArg}, {rising(1024), 1025, api.ErrArg},
	} {
		for _, f := range []func([]int, []uint32) ([]uint32, api.Errno){order.Apply, order.Undo} {
			out, e := f(x.perm, make([]uint32, x.cells))
			if e != x.e || e != api.OK && len(out) != 0 || e == api.OK && len(out) != x.cells {
				t.Error(i, len(out), e)
			}
		}
	}
}

// TestFollows is P21.1, P21.2 and P21.4, of units of all kinds.
func TestFollows(t *testing.T) {
	r := rand.New(rand.NewSource(28))
	for i := range 60 {
		c := []api.Config{two(), eight(), sixty()}[i%3]
		l := unitsOf(r, c, r.Intn(60))
		cells, e1 := order.Cells(c, l)
		perm, e2 := order.Perm(c, l)
		levels, _ := conf.Levels(c)
		if e1 != api.OK || e2 != api.OK || len(cells) != len(levels) || len(perm) != len(levels) {
			t.Fatal(e1, e2)
		}
		for level := range levels {
			for tick, u := range l {
				want := 2*tick + 1
				for before := range tick {
					if u.Kind == api.UnitNone || l[before].Kind == api.UnitNone {
						continue
					}
					mine, _, _ := conf.Road(c, u.Page)
					its, _, _ := conf.Road(c, l[before].Page)
					if mine[level] == its[level] {
						want = 2 * before
					}
				}
				if cells[level][tick] != want || perm[level][2*tick] != want {
					t.Fatal(level, tick, cells[level], perm[level], want)
				}
			}
			var others []int
			for tick := range l {
				others = append(others, perm[level][2*tick+1])
			}
			sorted := slices.Sorted(slices.Values(perm[level]))
			for at, n := range sorted {
				if at != n {
					t.Fatal("no order", perm[level])
				}
			}
			if !slices.IsSorted(others) {
				t.Fatal("those that aren't told don't rise", others)
			}
			tape := make([]uint32, 2*len(l))
			for at := range tape {
				tape[at] = r.Uint32()
			}
			put, _ := order.Apply(perm[level], tape)
			back, e := order.Undo(perm[level], put)
			if e != api.OK || !slices.Equal(back, tape) {
				t.Fatal(e)
			}
			for at, n := range perm[level] {
				if put[at] != tape[n] {
					t.Fatal("another place", at)
				}
			}
		}
	}
}

// TestTicksRead is P21.4: the paths that ticks read are those of the cells that are told.
func TestTicksRead(t *testing.T) {
	r := rand.New(rand.NewSource(29))
	for i := range 9 {
		c := []api.Config{two(), eight(), sixty()}[i%3]
		l := unitsOf(r, c, 25)
		levels, _ := conf.Levels(c)
		cells, _ := order.Cells(c, l)
		s := api.Source{Kind: api.FromChacha}
		w, _ := rec.New(c, s, 0, 0)
		tape := make([][]uint32, len(levels))
		for tick, u := range l {
			var now [][2]uint32
			for level := range levels {
				a, b := r.Uint32(), r.Uint32()
				tape[level] = append(tape[level], a, b)
				now = append(now, [2]uint32{a, b})
			}
			w, _ = rec.Ask(c, s, w.Store, w.Dev, now, u)
			if w.Fault.Code != api.OK {
				t.Fatal(w.Fault)
			}
			at := 0
			for level := len(levels) - 1; level >= 0; level-- {
				high := levels[level].High
				leaf, _ := entry.Leaf(high, tape[level][cells[level][tick]])
				if x := w.Sees[at+high]; x.Level != level || x.Bucket != 1<<high+leaf {
					t.Fatal("another path", tick, level, x.Bucket, leaf)
				}
				at += 4 * (high + 1)
			}
		}
	}
}

// TestMemory is P21.3.
func TestMemory(t *testing.T) {
	c := eight()
	l := []api.Unit{fetch(0), write(c, 1)}
	one, _ := order.Cells(c, l)
	perm, _ := order.Perm(c, l)
	for level := range one {
		clear(append(one[level], 1))
		clear(one[level])
		clear(perm[level])
	}
	two, _ := order.Cells(c, l)
	if !same(two, [][]int{{1, 3}, {1, 0}, {1, 0}}) || len(l[1].Data) != 4 || l[0].Kind != api.UnitFetch {
		t.Error("something is kept", two)
	}
	list, cells := []int{1, 0}, []uint32{7, 8}
	put, _ := order.Apply(list, cells)
	clear(put)
	put, _ = order.Undo(list, cells)
	clear(put)
	if !slices.Equal(list, []int{1, 0}) || !slices.Equal(cells, []uint32{7, 8}) {
		t.Error("memory is shared")
	}
}
