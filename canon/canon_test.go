package canon_test

import (
	"bytes"
	"math"
	"math/rand"
	"slices"
	"testing"

	"thimblerig/api"
	"thimblerig/canon"
	"thimblerig/conf"
	"thimblerig/lane"
	"thimblerig/order"
	"thimblerig/rec"
)

// two is the config of chapter 18's examples.
func two() api.Config {
	return api.Config{Pages: 2, Size: 1, Fan: 2, Slots: 1, Stash: 2, Frames: 1, Clients: 1, Queue: 1, Top: 2}
}

// eight is the config of chapter 8's examples, of three levels, with a great stash.
func eight() api.Config {
	return api.Config{Pages: 8, Size: 4, Fan: 2, Slots: 2, Stash: 64, Frames: 2, Clients: 2, Queue: 4, Top: 2}
}

// three is a config of two levels that are not as wide as one another.
func three() api.Config {
	return api.Config{Pages: 9, Size: 30, Fan: 3, Slots: 1, Stash: 64, Frames: 2, Clients: 2, Queue: 4, Top: 3}
}

func places(l []api.See) []int {
	var out []int
	for _, x := range l {
		if x.Kind == api.SeeWrite {
			out = append(out, -x.Bucket)
		} else {
			out = append(out, x.Bucket)
		}
	}
	return out
}

func sameTrace(a, b []api.See) bool {
	return rec.Same(api.Work{Sees: a}, api.Work{Sees: b})
}

// levelsOf is the level to which each text up to so many ticks is written.
func levelsOf(c api.Config, ticks int) []int {
	levels, _ := conf.Levels(c)
	var out []int
	for level := len(levels) - 1; level >= 0; level-- {
		out = append(out, slices.Repeat([]int{level}, 2<<levels[level].High-1)...)
	}
	for range ticks {
		for level := len(levels) - 1; level >= 0; level-- {
			out = append(out, slices.Repeat([]int{level}, 2*levels[level].High+2)...)
		}
	}
	return out
}

// textsOf are texts of all kinds, up to so many ticks.
func textsOf(r *rand.Rand, c api.Config, ticks int) [][]byte {
	levels, _ := conf.Levels(c)
	var out [][]byte
	for n, level := range levelsOf(c, ticks) {
		text := make([]byte, 8+levels[level].Width)
		r.Read(text)
		copy(text, []byte{byte(n), byte(n >> 8), byte(n >> 16), 0, 0, 0, 0, 0})
		out = append(out, text)
	}
	return out
}

// cellsOf are cells of all kinds, for so many ticks.
func cellsOf(r *rand.Rand, c api.Config, ticks int) [][]uint32 {
	levels, _ := conf.Levels(c)
	out := make([][]uint32, len(levels))
	for level := range out {
		for range 2 * ticks {
			out[level] = append(out[level], r.Uint32())
		}
	}
	return out
}

// unitsOf are units of all kinds.
func unitsOf(r *rand.Rand, c api.Config, many int) []api.Unit {
	var out []api.Unit
	for range many {
		u := api.Unit{Kind: byte(r.Intn(3))}
		if u.Kind != api.UnitNone {
			u.Page = r.Intn(c.Pages)
		}
		if u.Kind == api.UnitWrite {
			u.Data = make([]byte, c.Size)
			r.Read(u.Data)
		}
		out = append(out, u)
	}
	return out
}

// shown is what units show by lanes and a source, from a new store of numbers from 0 on; none, if it goes wrong.
func shown(t *testing.T, c api.Config, s api.Source, l []api.Unit, lanes [][]uint32) []api.See {
	t.Helper()
	w, e := rec.New(c, s, 0, 0)
	if e != api.OK {
		t.Fatal(e)
	}
	out := w.Sees
	for tick, u := range l {
		var cells [][2]uint32
		for _, lane := range lanes {
			cells = append(cells, [2]uint32{lane[2*tick], lane[2*tick+1]})
		}
		w, e = rec.Ask(c, s, w.Store, w.Dev, cells, u)
		if e != api.OK {
			t.Fatal(e)
		}
		if w.Fault.Code != api.OK {
			return nil
		}
		out = append(out, w.Sees...)
	}
	return out
}

// TestExamples are those of the chapter.
func TestExamples(t *testing.T) {
	for ticks, want := range map[int]int{0: 3, 1: 7, 2: 11, 512: 3 + 4*512} {
		if n, e := canon.Count(two(), ticks); n != want || e != api.OK {
			t.Error(ticks, n, e)
		}
	}
	if n, e := canon.Count(eight(), 3); n != 25+3*18 || e != api.OK {
		t.Error(n, e)
	}
	r := rand.New(rand.NewSource(30))
	all := textsOf(r, two(), 1)
	l, e := canon.Trace(two(), [][]uint32{{1, 0}}, all, 1)
	if e != api.OK || !slices.Equal(places(l), []int{-3, -2, -1, 1, 3, -3, -1, 1, 2, -2, -1}) {
		t.Fatal(places(l), e)
	}
	if got := canon.Written(l); !slices.EqualFunc(got, all, bytes.Equal) {
		t.Error("other texts")
	}
	for at, n := range map[int]int{3: 2, 4: 0, 7: 4, 8: 1} {
		if !bytes.Equal(l[at].Bytes, all[n]) || l[at].Kind != api.SeeRead {
			t.Error("another text is read", at)
		}
	}
}

// TestCount is P22.1: what is asked first.
func TestCount(t *testing.T) {
	bad := two()
	bad.Size = 33
	for i, x := range []struct {
		c     api.Config
		ticks int
		n     int
		e     api.Errno
	}{
		{two(), 512, 2051, api.OK}, {bad, 0, 0, api.ErrBad}, {bad, -1, 0, api.ErrBad}, {bad, 513, 0, api.ErrBad}, {two(), -1, 0, api.ErrMany}, {two(), 513, 0, api.ErrMany}, {two(), math.MinInt, 0, api.ErrMany}, {two(), math.MaxInt, 0, api.ErrMany},
	} {
		if n, e := canon.Count(x.c, x.ticks); n != x.n || e != x.e {
			t.Error("Count", i, n, e)
		}
		if x.e == api.OK {
			continue
		}
		if l, e := canon.Trace(x.c, nil, nil, x.ticks); e != x.e || len(l) != 0 {
			t.Error("Trace", i, e)
		}
	}
}

// TestWritten is P22.1, of any list.
func TestWritten(t *testing.T) {
	l := []api.See{{Kind: api.SeeWrite, Level: -4, Bytes: []byte{1}}, {Kind: api.SeeRead, Bytes: []byte{2}}, {Bytes: []byte{3}}, {Kind: 3}, {Kind: api.SeeWrite}, {Kind: api.SeeWrite, Bytes: []byte{4, 5}}}
	got := canon.Written(l)
	if len(got) != 3 || !bytes.Equal(got[0], []byte{1}) || len(got[1]) != 0 || !bytes.Equal(got[2], []byte{4, 5}) || len(canon.Written(nil)) != 0 {
		t.Error(got)
	}
	clear(got[0])
	if l[0].Bytes[0] != 1 {
		t.Error("memory is shared")
	}
}

// TestTraceRefuses is P22.2: cells and texts that aren't those.
func TestTraceRefuses(t *testing.T) {
	r := rand.New(rand.NewSource(31))
	for i, c := range []api.Config{two(), eight(), three()} {
		for ticks := range 3 {
			for _, turn := range []func(cells *[][]uint32, all *[][]byte){
				func(cells *[][]uint32, all *[][]byte) { *cells = nil },
				func(cells *[][]uint32, all *[][]byte) { *cells = (*cells)[1:] },
				func(cells *[][]uint32, all *[][]byte) { *cells = append(*cells, (*cells)[0]) },
				func(cells *[][]uint32, all *[][]byte) { (*cells)[0] = append((*cells)[0], 1) },
				func(cells *[][]uint32, all *[][]byte) { (*cells)[len(*cells)-1] = append((*cells)[0], 1, 2) },
				func(cells *[][]uint32, all *[][]byte) { *all = nil },
				func(cells *[][]uint32, all *[][]byte) { *all = (*all)[:len(*all)-1] },
				func(cells *[][]uint32, all *[][]byte) { *all = append(*all, (*all)[0]) },
				func(cells *[][]uint32, all *[][]byte) { (*all)[0] = append((*all)[0], 1) },
				func(cells *[][]uint32, all *[][]byte) { x := *all; x[len(x)-1] = x[len(x)-1][:len(x[len(x)-1])-1] },
				func(cells *[][]uint32, all *[][]byte) { (*all)[0][0]++ },
				func(cells *[][]uint32, all *[][]byte) { x := *all; x[len(x)-1][7]++ },
				func(cells *[][]uint32, all *[][]byte) { x := *all; x[1], x[2] = x[2], x[1] },
				func(cells *[][]uint32, all *[][]byte) { (*all)[1] = nil },
			} {
				cells, all := cellsOf(r, c, ticks), textsOf(r, c, ticks)
				if l, e := canon.Trace(c, cells, all, ticks); e != api.OK || len(l) == 0 {
					t.Fatal(i, ticks, e)
				}
				turn(&cells, &all)
				if l, e := canon.Trace(c, cells, all, ticks); e != api.ErrArg || len(l) != 0 {
					t.Error(i, ticks, e)
				}
				if lanes, pad, e := canon.Back(c, make([]api.Unit, ticks), cells, all); e != api.ErrArg || len(lanes) != 0 || pad.Kind != 0 || len(pad.Pad) != 0 || pad.Width != 0 {
					t.Error(i, ticks, e)
				}
			}
		}
	}
}

// TestThereAndBack is P22.2 to P22.4: units show the canonical trace; and by Back any units show any trace.
func TestThereAndBack(t *testing.T) {
	r := rand.New(rand.NewSource(32))
	for i := range 45 {
		c := []api.Config{two(), eight(), three()}[i%3]
		width, _ := conf.Width(c)
		ticks := r.Intn(12)
		l, lanes := unitsOf(r, c, ticks), cellsOf(r, c, ticks)
		many, _ := canon.Count(c, ticks)
		s := api.Source{Kind: api.FromPad, Pad: make([]byte, many*width), Width: width}
		r.Read(s.Pad)
		first := shown(t, c, s, l, lanes)
		if first == nil {
			t.Fatal("goes wrong")
		}
		perm, _ := order.Perm(c, l)
		var cells [][]uint32
		for level := range lanes {
			put, _ := order.Apply(perm[level], lanes[level])
			cells = append(cells, put)
		}
		trace, e := canon.Trace(c, cells, canon.Written(first), ticks)
		if e != api.OK || !sameTrace(trace, first) {
			t.Fatal("units show another trace", e)
		}
		// Other units, and texts that nobody wrote.
		other, all := unitsOf(r, c, ticks), textsOf(r, c, ticks)
		want, _ := canon.Trace(c, cells, all, ticks)
		backLanes, pad, e := canon.Back(c, other, cells, all)
		if e != api.OK || pad.Kind != api.FromPad || pad.Width != width || len(pad.Pad) != many*width || lane.Asks(pad) != api.OK {
			t.Fatal(e)
		}
		if !sameTrace(shown(t, c, pad, other, backLanes), want) {
			t.Fatal("by these cells and this pad other things are shown")
		}
		// And those that have it by their own cells and pad get these back, up to what no text hides.
		ownLanes, own, e := canon.Back(c, l, cells, canon.Written(first))
		if e != api.OK || !slices.EqualFunc(ownLanes, lanes, slices.Equal) {
			t.Fatal("other lanes", e)
		}
		levels, _ := conf.Levels(c)
		for n, level := range levelsOf(c, ticks) {
			at, used := n*width, levels[level].Width
			if !bytes.Equal(own.Pad[at:at+used], s.Pad[at:at+used]) || !bytes.Equal(own.Pad[at+used:at+width], make([]byte, width-used)) {
				t.Fatal("another pad", n)
			}
		}
	}
}

// TestBackRefuses is P22.3: what is asked first, in its order.
func TestBackRefuses(t *testing.T) {
	r := rand.New(rand.NewSource(33))
	bad := two()
	bad.Frames = 9
	fetch := func(page int) api.Unit { return api.Unit{Kind: api.UnitFetch, Page: page} }
	refused := func(name string, c api.Config, l []api.Unit, cells [][]uint32, all [][]byte, want api.Errno) {
		t.Helper()
		lanes, pad, e := canon.Back(c, l, cells, all)
		if e != want || len(lanes) != 0 || pad.Kind != 0 || len(pad.Pad) != 0 || pad.Width != 0 {
			t.Error(name, e)
		}
	}
	refused("a config", bad, []api.Unit{fetch(9)}, nil, nil, api.ErrBad)
	refused("a unit", two(), []api.Unit{fetch(2)}, cellsOf(r, two(), 1), textsOf(r, two(), 1), api.ErrArg)
	refused("units", two(), make([]api.Unit, 513), nil, nil, api.ErrMany)
	refused("fewer ticks", two(), []api.Unit{fetch(1)}, cellsOf(r, two(), 2), textsOf(r, two(), 2), api.ErrArg)
	// The pad of 64 pages of 32 bytes has 224 bytes for each text: 4,681 are its most.
	big := api.Config{Pages: 64, Size: 32, Fan: 8, Slots: 4, Stash: 64, Frames: 1, Clients: 1, Queue: 1, Top: 16}
	_, each, _ := conf.Seals(big)
	first, _ := canon.Count(big, 0)
	most := (api.MaxPad/224 - first) / each
	refused("a pad", big, make([]api.Unit, most+1), cellsOf(r, big, most+1), textsOf(r, big, most+1), api.ErrMany)
	if _, pad, e := canon.Back(big, make([]api.Unit, most), cellsOf(r, big, most), textsOf(r, big, most)); e != api.OK || len(pad.Pad) != (first+most*each)*224 {
		t.Error(len(pad.Pad), e)
	}
	// That of 8,192 texts of 128 bytes has just as many as may be.
	full := api.Config{Pages: 33, Size: 24, Fan: 3, Slots: 2, Stash: 64, Frames: 1, Clients: 1, Queue: 1, Top: 2}
	if _, pad, e := canon.Back(full, make([]api.Unit, 236), cellsOf(r, full, 236), textsOf(r, full, 236)); e != api.OK || len(pad.Pad) != api.MaxPad {
		t.Error(len(pad.Pad), e)
	}
	// All blocks are for one leaf, no path but one of the other half is read.
	tight := api.Config{Pages: 16, Size: 1, Fan: 2, Slots: 1, Stash: 1, Frames: 1, Clients: 1, Queue: 1, Top: 16}
	l := []api.Unit{fetch(0), fetch(1), fetch(2), fetch(3), fetch(4), fetch(5), fetch(6), fetch(7), fetch(8), fetch(9)}
	cells := [][]uint32{make([]uint32, 20)}
	refused("a stash", tight, l, cells, textsOf(r, tight, 10), api.ErrOverflow)
	tight.Stash = 9
	if _, _, e := canon.Back(tight, l, cells, textsOf(r, tight, 10)); e != api.OK {
		t.Error(e)
	}
}

// TestMemory is P22.3.
func TestMemory(t *testing.T) {
	r := rand.New(rand.NewSource(34))
	c := two()
	cells, all, l := cellsOf(r, c, 3), textsOf(r, c, 3), unitsOf(r, c, 3)
	one, _ := canon.Trace(c, cells, all, 3)
	twin := rec.Twin(api.Work{Sees: one}).Sees
	for i := range one {
		clear(one[i].Bytes)
		if i+1 < len(one) && !bytes.Equal(one[i+1].Bytes, twin[i+1].Bytes) {
			t.Fatal("texts are shared", i)
		}
	}
	lanes, pad, _ := canon.Back(c, l, cells, all)
	clear(pad.Pad)
	clear(lanes[0])
	two, e := canon.Trace(c, cells, all, 3)
	if e != api.OK || !sameTrace(two, twin) {
		t.Error("memory is shared")
	}
}
