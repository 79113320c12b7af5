package rec_test

import (
	"bytes"
	"math"
	"math/rand"
	"slices"
	"testing"

	"thimblerig/api"
	"thimblerig/conf"
	"thimblerig/dev"
	"thimblerig/entry"
	"thimblerig/geo"
	"thimblerig/lane"
	"thimblerig/oram"
	"thimblerig/rec"
	"thimblerig/whole"
)

// two is the config of chapter 18's examples.
func two() api.Config {
	return api.Config{Pages: 2, Size: 1, Fan: 2, Slots: 1, Stash: 2, Frames: 1, Clients: 1, Queue: 1, Top: 2}
}

// eight is the config of chapter 8's examples, of three levels.
func eight() api.Config {
	return api.Config{Pages: 8, Size: 4, Fan: 2, Slots: 2, Stash: 8, Frames: 2, Clients: 2, Queue: 4, Top: 2}
}

func chacha(first byte) api.Source {
	return api.Source{Kind: api.FromChacha, Key: api.Key{first}}
}

func pad(width, many int) api.Source {
	return api.Source{Kind: api.FromPad, Pad: make([]byte, width*many), Width: width}
}

func isNone(w api.Work) bool {
	return rec.Same(w, api.Work{})
}

func begin(t *testing.T, c api.Config, s api.Source, next, ticks uint64) api.Work {
	t.Helper()
	w, e := rec.New(c, s, next, ticks)
	if e != api.OK {
		t.Fatal(e)
	}
	return w
}

// cellsOf are cells of all kinds, two for each level.
func cellsOf(r *rand.Rand, c api.Config) [][2]uint32 {
	levels, _ := conf.Levels(c)
	out := make([][2]uint32, len(levels))
	for i := range out {
		out[i] = [2]uint32{r.Uint32(), r.Uint32()}
	}
	return out
}

// unitOf is a unit of any kind.
func unitOf(r *rand.Rand, c api.Config) api.Unit {
	u := api.Unit{Kind: byte(r.Intn(3)), Frame: r.Intn(5) - 2}
	if u.Kind != api.UnitNone {
		u.Page = r.Intn(c.Pages)
	}
	if u.Kind == api.UnitWrite {
		u.Data = make([]byte, c.Size)
		r.Read(u.Data)
	}
	return u
}

// untrusted is a store of which nothing is trusted.
func untrusted(c api.Config, next, ticks uint64) api.Store {
	levels, _ := conf.Levels(c)
	return api.Store{Levels: make([]api.Oram, len(levels)), Map: make([]int, levels[len(levels)-1].Blocks), Next: next, Ticks: ticks}
}

// plain is a tick, as the chapter says, by oram's accesses.
func plain(c api.Config, s api.Source, st api.Store, d api.Dev, cells [][2]uint32, u api.Unit) api.Work {
	levels, _ := conf.Levels(c)
	blocks, places, _ := conf.Road(c, u.Page)
	last := len(levels) - 1
	out := api.Work{Store: api.Store{Levels: slices.Clone(st.Levels), Map: slices.Clone(st.Map), Next: st.Next, Ticks: st.Ticks + 1}, Dev: d}
	leafOf := func(level, cell int) int { return int(cells[level][cell]) % (1 << levels[level].High) }
	position := st.Map[blocks[last]]
	for level := last; level >= 0; level-- {
		if out.Fault.Code != api.OK {
			turn, _ := oram.Halt(c, level, out.Store.Next, out.Dev, st.Ticks)
			out.Dev, out.Sees = turn.Dev, append(out.Sees, turn.Sees...)
			continue
		}
		leaf := leafOf(level, 1)
		var op []api.Op
		if u.Kind != api.UnitNone {
			op = []api.Op{{Id: blocks[level], New: position == 0, To: leafOf(level, 0), Data: u.Data}}
			if level > 0 {
				op[0].At, op[0].Data = 4*places[level-1], []byte{byte(leafOf(level-1, 0) + 1), 0, 0, 0}
			}
			if position > 0 {
				leaf = position - 1
			}
		}
		turn, e := oram.Access(c, s, level, out.Store.Levels[level], out.Store.Next, out.Dev, leaf, op, st.Ticks)
		if e != api.OK {
			panic(e)
		}
		out.Store.Levels[level], out.Store.Next, out.Dev, out.Data, out.Fault = turn.Oram, turn.Next, turn.Dev, turn.Data, turn.Fault
		out.Sees = append(out.Sees, turn.Sees...)
		if turn.Fault.Code == api.OK && u.Kind != api.UnitNone && level > 0 {
			position = int(turn.Data[4*places[level-1]])
			if position > 1<<levels[level-1].High || !bytes.Equal(turn.Data[4*places[level-1]+1:4*places[level-1]+4], make([]byte, 3)) {
				out.Fault = api.Fault{Code: api.ErrIntegrity, Marks: []api.Mark{{Level: level}}}
			}
		}
	}
	if out.Fault.Code != api.OK {
		out.Store, out.Data = untrusted(c, out.Store.Next, st.Ticks+1), nil
	} else if u.Kind != api.UnitNone {
		out.Store.Map[blocks[last]] = leafOf(last, 0) + 1
	}
	return out
}

// TestExample is that of the chapter.
func TestExample(t *testing.T) {
	c, s := two(), pad(73, 50)
	w := begin(t, c, s, 0, 0)
	if len(w.Sees) != 3 || w.Store.Next != 3 || w.Store.Ticks != 0 {
		t.Fatal(w)
	}
	one, e := rec.Ask(c, s, w.Store, w.Dev, [][2]uint32{{0, 1}}, api.Unit{Kind: api.UnitWrite, Page: 1, Data: []byte{9}})
	if e != api.OK || one.Fault.Code != api.OK || !bytes.Equal(one.Data, []byte{0}) || !slices.Equal(one.Store.Map, []int{0, 1}) || len(one.Sees) != 8 || one.Store.Next != 7 || one.Store.Ticks != 1 {
		t.Fatal(one, e)
	}
	two, e := rec.Ask(c, s, one.Store, one.Dev, [][2]uint32{{1, 1}}, api.Unit{Kind: api.UnitFetch, Page: 1})
	if e != api.OK || !bytes.Equal(two.Data, []byte{9}) || !slices.Equal(two.Store.Map, []int{0, 2}) || two.Store.Ticks != 2 {
		t.Fatal(two, e)
	}
}

// TestNew is P20.1: trees, the order in which they are written, and numbers.
func TestNew(t *testing.T) {
	for _, c := range []api.Config{two(), eight(), {Pages: 64, Size: 32, Fan: 2, Slots: 4, Stash: 1, Frames: 1, Clients: 1, Queue: 1, Top: 8}} {
		s := chacha(3)
		levels, _ := conf.Levels(c)
		w := begin(t, c, s, 40, math.MaxUint64)
		at, next := 0, uint64(40)
		d, _ := dev.New(c)
		for level := len(levels) - 1; level >= 0; level-- {
			all, root, _ := whole.Fill(s, levels[level], level, next)
			next += uint64(len(all))
			if o := w.Store.Levels[level]; o.Root != root || len(o.Stash) != 0 {
				t.Fatal("another root", level)
			}
			for i, b := range all {
				x := w.Sees[at]
				at++
				if x.Kind != api.SeeWrite || x.Level != level || x.Bucket != len(all)-i || !bytes.Equal(x.Bytes, b) {
					t.Fatal(level, i, x)
				}
				d.Levels[level][x.Bucket-1] = b
			}
		}
		st := w.Store
		if at != len(w.Sees) || st.Next != next || st.Ticks != math.MaxUint64 || !dev.Same(w.Dev, d) || len(w.Data) != 0 || w.Fault.Code != api.OK {
			t.Fatal(st.Next, st.Ticks)
		}
		if len(st.Map) != levels[len(levels)-1].Blocks || slices.Max(st.Map) != 0 || slices.Min(st.Map) != 0 || len(st.Levels) != len(levels) || rec.Check(c, st) != api.OK {
			t.Fatal(st.Map)
		}
	}
}

// TestNewRefuses is P20.1: what is asked first, in its order.
func TestNewRefuses(t *testing.T) {
	bad := two()
	bad.Queue = 0
	for i, x := range []struct {
		c    api.Config
		s    api.Source
		next uint64
		e    api.Errno
	}{
		{two(), pad(73, 3), 0, api.OK}, {two(), chacha(0), math.MaxUint64 - 2, api.OK}, {eight(), pad(96, 25), 0, api.OK}, {eight(), pad(2048, 30), 5, api.OK},
		{bad, pad(72, 0), 0, api.ErrBad}, {two(), api.Source{}, 0, api.ErrBad}, {two(), pad(0, 0), 0, api.ErrBad},
		{two(), pad(72, 0), 0, api.ErrMany}, {eight(), pad(95, 99), 0, api.ErrMany}, {eight(), pad(88, 99), 99, api.ErrMany},
		{two(), pad(73, 3), 1, api.ErrEntropy}, {two(), pad(73, 2), 0, api.ErrEntropy}, {eight(), pad(96, 24), 0, api.ErrEntropy}, {two(), chacha(0), math.MaxUint64 - 1, api.ErrEntropy}, {two(), pad(73, 3), math.MaxUint64, api.ErrEntropy},
	} {
		w, e := rec.New(x.c, x.s, x.next, 7)
		if e != x.e || isNone(w) != (e != api.OK) {
			t.Error(i, e)
		}
	}
}

// TestAsPlain is P20.2: ticks of all kinds are just those that the chapter's words make, also where they go wrong.
func TestAsPlain(t *testing.T) {
	r := rand.New(rand.NewSource(25))
	codes := map[api.Errno]int{}
	for range 80 {
		c := eight()
		c.Stash, c.Slots = 1+r.Intn(2), 1+r.Intn(2)
		if r.Intn(2) == 0 {
			c.Pages, c.Fan, c.Top = 20, 3, 3
		}
		s := chacha(byte(r.Int()))
		if r.Intn(2) == 0 {
			s = pad(110, 1500)
			r.Read(s.Pad)
		}
		w := begin(t, c, s, 0, r.Uint64())
		crowd := uint32(math.MaxUint32)
		if r.Intn(2) == 0 {
			crowd = 0
		}
		for range 25 {
			if r.Intn(25) == 0 {
				level := r.Intn(len(w.Dev.Levels))
				w.Dev.Levels[level][r.Intn(3)][r.Intn(80)] ^= 1
			}
			u, cells := unitOf(r, c), cellsOf(r, c)
			for i := range cells {
				cells[i][0] &= crowd
			}
			kept := rec.Twin(w)
			want := plain(c, s, w.Store, w.Dev, cells, u)
			got, e := rec.Ask(c, s, w.Store, w.Dev, cells, u)
			if e != api.OK || !rec.Same(got, want) || !rec.Same(w, kept) {
				t.Fatal(got.Fault, want.Fault, got.Data, want.Data, e)
			}
			_, many, _ := conf.Seals(c)
			if len(got.Sees) != 2*many || rec.Check(c, got.Store) != api.OK {
				t.Fatal(len(got.Sees))
			}
			codes[got.Fault.Code]++
			if got.Fault.Code != api.OK {
				break
			}
			w = got
		}
	}
	if codes[api.OK] < 800 || codes[api.ErrIntegrity] < 8 || codes[api.ErrOverflow] < 8 {
		t.Error("too few of a kind:", codes[api.OK], codes[api.ErrIntegrity], codes[api.ErrOverflow])
	}
}

// TestGoesWrong is P20.2: at each level what is above was done, the level's fault is told, and what is below only echoed.
func TestGoesWrong(t *testing.T) {
	c, s := eight(), chacha(9)
	w := begin(t, c, s, 0, 5)
	u := api.Unit{Kind: api.UnitWrite, Page: 6, Data: []byte("abcd")}
	cells := [][2]uint32{{1, 2}, {3, 0}, {0, 1}}
	good, _ := rec.Ask(c, s, w.Store, w.Dev, cells, u)
	for level, before := range []int{10, 4, 0} {
		hurt := dev.Twin(w.Dev)
		hurt.Levels[level][0][8] ^= 2
		got, e := rec.Ask(c, s, w.Store, hurt, cells, u)
		want := untrusted(c, w.Store.Next+uint64(before), 6)
		if e != api.OK || !rec.Same(api.Work{Store: got.Store}, api.Work{Store: want}) || len(got.Data) != 0 {
			t.Fatal(level, got.Store, e)
		}
		if f := got.Fault; f.Code != api.ErrIntegrity || !slices.Equal(f.Marks, []api.Mark{{Level: level, Place: 1}}) {
			t.Fatal(level, f)
		}
		for i, x := range got.Sees {
			y := good.Sees[i]
			if x.Kind != y.Kind || x.Level != y.Level {
				t.Fatal("another order", level, i)
			}
			if x.Level > level && (x.Bucket != y.Bucket || !bytes.Equal(x.Bytes, y.Bytes)) {
				t.Fatal("not done above", level, i)
			}
			leaf, _ := geo.Reverse(3-x.Level, 5)
			if on, _ := geo.On(3-x.Level, x.Bucket, leaf); x.Level < level && !on {
				t.Fatal("not the tick's leaf below", level, i)
			}
			if x.Level <= level && x.Kind == api.SeeWrite && !bytes.Equal(x.Bytes, hurt.Levels[x.Level][x.Bucket-1]) {
				t.Fatal("not echoed", level, i)
			}
		}
		if len(got.Sees) != len(good.Sees) {
			t.Fatal(len(got.Sees))
		}
	}
}

// TestNoPosition is P20.2: what is read above is no position.
func TestNoPosition(t *testing.T) {
	c, s := eight(), chacha(8)
	w := begin(t, c, s, 0, 0)
	// Block 1 of level 2 gets bytes that are no position of level 1's height at place 0; page 4's block of level 1 is 2.
	turn, e := oram.Access(c, s, 2, w.Store.Levels[2], w.Store.Next, w.Dev, 0, []api.Op{{Id: 1, New: true, To: 1, Data: []byte{5, 0, 0, 0, 4}}}, 0)
	if e != api.OK || turn.Fault.Code != api.OK {
		t.Fatal(e)
	}
	st := w.Store
	st.Levels[2], st.Next, st.Map[1] = turn.Oram, turn.Next, 2
	cells := [][2]uint32{{1, 2}, {3, 0}, {0, 1}}
	got, e := rec.Ask(c, s, st, turn.Dev, cells, api.Unit{Kind: api.UnitFetch, Page: 4})
	if e != api.OK || got.Fault.Code != api.ErrIntegrity || !slices.Equal(got.Fault.Marks, []api.Mark{{Level: 2, Place: 0}}) {
		t.Fatal(got.Fault, e)
	}
	if want := untrusted(c, st.Next+4, 1); !rec.Same(api.Work{Store: got.Store}, api.Work{Store: want}) || len(got.Data) != 0 || len(got.Sees) != 36 {
		t.Fatal(got.Store, len(got.Sees))
	}
	for i := range 2 {
		if !slices.EqualFunc(got.Dev.Levels[i], turn.Dev.Levels[i], bytes.Equal) {
			t.Fatal("a level below is turned")
		}
	}
	// Page 6's block of level 1 is 3, whose place has the position 4: a leaf, but no block is there.
	got, e = rec.Ask(c, s, st, turn.Dev, cells, api.Unit{Kind: api.UnitFetch, Page: 6})
	if e != api.OK || got.Fault.Code != api.ErrIntegrity || !slices.Equal(got.Fault.Marks, []api.Mark{{Level: 1, Place: 0}}) || got.Store.Next != st.Next+4 {
		t.Fatal(got.Fault, e)
	}
}

// TestHalt is P20.3.
func TestHalt(t *testing.T) {
	c, s := eight(), chacha(7)
	w := begin(t, c, s, 0, 0)
	r := rand.New(rand.NewSource(26))
	for range 6 {
		got, e := rec.Ask(c, s, w.Store, w.Dev, cellsOf(r, c), unitOf(r, c))
		if e != api.OK || got.Fault.Code != api.OK {
			t.Fatal(e)
		}
		w = got
	}
	w.Store.Ticks = math.MaxUint64
	got, e := rec.Halt(c, w.Store, w.Dev)
	want := api.Work{Store: w.Store, Dev: w.Dev}
	want.Store.Ticks = 0
	for level := 2; level >= 0; level-- {
		turn, _ := oram.Halt(c, level, w.Store.Next, w.Dev, math.MaxUint64)
		want.Sees = append(want.Sees, turn.Sees...)
	}
	if e != api.OK || !rec.Same(got, want) {
		t.Fatal(e)
	}
	bad := c
	bad.Stash = 65
	other, _ := dev.New(two())
	for i, x := range []struct {
		c  api.Config
		st api.Store
		d  api.Dev
	}{{bad, w.Store, w.Dev}, {c, api.Store{}, w.Dev}, {c, w.Store, other}, {c, w.Store, api.Dev{}}} {
		if got, e := rec.Halt(x.c, x.st, x.d); e != api.ErrBad || !isNone(got) {
			t.Error(i, e)
		}
	}
}

// TestCheck is P20.1, and that Ask and Halt ask it.
func TestCheck(t *testing.T) {
	c := eight()
	w := begin(t, c, chacha(6), 0, 0)
	block := func(id, size int) []api.Block { return []api.Block{{Id: id, Data: make([]byte, size)}} }
	for i, x := range []struct {
		turn func(st *api.Store, c *api.Config)
		e    api.Errno
	}{
		{func(st *api.Store, c *api.Config) {}, api.OK},
		{func(st *api.Store, c *api.Config) { st.Next, st.Ticks = 1<<63, math.MaxUint64 }, api.OK},
		{func(st *api.Store, c *api.Config) { st.Map = []int{2, 1} }, api.OK},
		{func(st *api.Store, c *api.Config) { st.Levels[0].Stash = block(7, 4) }, api.OK},
		{func(st *api.Store, c *api.Config) { c.Clients = 5 }, api.ErrBad},
		{func(st *api.Store, c *api.Config) { st.Levels = st.Levels[:2] }, api.ErrBad},
		{func(st *api.Store, c *api.Config) { st.Levels = append(st.Levels, api.Oram{}) }, api.ErrBad},
		{func(st *api.Store, c *api.Config) { st.Levels = nil }, api.ErrBad},
		{func(st *api.Store, c *api.Config) { st.Levels[0].Stash = block(8, 4) }, api.ErrBad},
		{func(st *api.Store, c *api.Config) { st.Levels[2].Stash = block(0, 4) }, api.ErrBad},
		{func(st *api.Store, c *api.Config) { st.Map = st.Map[:1] }, api.ErrBad},
		{func(st *api.Store, c *api.Config) { st.Map = append(st.Map, 0) }, api.ErrBad},
		{func(st *api.Store, c *api.Config) { st.Map[1] = 3 }, api.ErrBad},
		{func(st *api.Store, c *api.Config) { st.Map[0] = -1 }, api.ErrBad},
		{func(st *api.Store, c *api.Config) { st.Map[0] = math.MinInt }, api.ErrBad},
	} {
		now, c := rec.Twin(w), c
		x.turn(&now.Store, &c)
		if e := rec.Check(c, now.Store); e != x.e {
			t.Error("Check", i, e)
		}
		if x.e == api.OK {
			continue
		}
		if got, e := rec.Ask(c, chacha(6), now.Store, now.Dev, nil, api.Unit{Kind: 9}); e != x.e || !isNone(got) {
			t.Error("Ask", i, e)
		}
		if got, e := rec.Halt(c, now.Store, now.Dev); e != x.e || !isNone(got) {
			t.Error("Halt", i, e)
		}
	}
}

// TestAskRefuses is P20.2: what is asked first, in its order.
func TestAskRefuses(t *testing.T) {
	c := two()
	w := begin(t, c, pad(73, 3), 0, 0)
	other := begin(t, eight(), chacha(1), 0, 0)
	one := [][2]uint32{{0, 1}}
	fetch := api.Unit{Kind: api.UnitFetch, Page: 1, Frame: -7}
	for i, x := range []struct {
		s     api.Source
		next  uint64
		d     api.Dev
		cells [][2]uint32
		u     api.Unit
		e     api.Errno
	}{
		{pad(73, 7), 3, w.Dev, one, fetch, api.OK}, {pad(73, 7), 3, w.Dev, one, api.Unit{Frame: 99}, api.OK}, {pad(73, 7), 3, w.Dev, one, api.Unit{Kind: api.UnitWrite, Data: []byte{1}}, api.OK},
		{api.Source{}, 3, w.Dev, nil, fetch, api.ErrBad}, {pad(72, 0), 3, other.Dev, nil, fetch, api.ErrBad}, {pad(72, 0), 3, api.Dev{}, one, fetch, api.ErrBad},
		{pad(72, 0), 3, w.Dev, nil, fetch, api.ErrArg}, {pad(72, 0), 3, w.Dev, append(one, one...), fetch, api.ErrArg},
		{pad(72, 0), 3, w.Dev, one, api.Unit{Page: 1}, api.ErrArg}, {pad(72, 0), 3, w.Dev, one, api.Unit{Data: []byte{1}}, api.ErrArg}, {pad(72, 0), 3, w.Dev, one, api.Unit{Kind: 3}, api.ErrArg}, {pad(72, 0), 3, w.Dev, one, api.Unit{Kind: 255, Data: []byte{1}}, api.ErrArg},
		{pad(72, 0), 3, w.Dev, one, api.Unit{Kind: api.UnitFetch, Page: 2}, api.ErrArg}, {pad(72, 0), 3, w.Dev, one, api.Unit{Kind: api.UnitFetch, Page: -1}, api.ErrArg}, {pad(72, 0), 3, w.Dev, one, api.Unit{Kind: api.UnitFetch, Data: []byte{1}}, api.ErrArg},
		{pad(72, 0), 3, w.Dev, one, api.Unit{Kind: api.UnitWrite, Page: 2, Data: []byte{1}}, api.ErrArg}, {pad(72, 0), 3, w.Dev, one, api.Unit{Kind: api.UnitWrite, Page: -1, Data: []byte{1}}, api.ErrArg}, {pad(72, 0), 3, w.Dev, one, api.Unit{Kind: api.UnitWrite}, api.ErrArg}, {pad(72, 0), 3, w.Dev, one, api.Unit{Kind: api.UnitWrite, Data: []byte{1, 2}}, api.ErrArg},
		{pad(72, 0), 3, w.Dev, one, fetch, api.ErrMany}, {pad(72, 50), 3, w.Dev, one, fetch, api.ErrMany},
		{pad(73, 6), 3, w.Dev, one, fetch, api.ErrEntropy}, {pad(73, 7), 4, w.Dev, one, api.Unit{}, api.ErrEntropy}, {pad(73, 7), math.MaxUint64, w.Dev, one, fetch, api.ErrEntropy}, {chacha(1), math.MaxUint64 - 2, w.Dev, one, fetch, api.ErrEntropy},
	} {
		st := rec.Twin(w).Store
		st.Next = x.next
		got, e := rec.Ask(c, x.s, st, x.d, x.cells, x.u)
		if e != x.e || isNone(got) != (e != api.OK) {
			t.Error(i, e)
		}
	}
}

// TestSameAndTwin is P20.1, of any works.
func TestSameAndTwin(t *testing.T) {
	first := func() api.Work {
		return api.Work{
			Store: api.Store{Levels: []api.Oram{{Root: api.Digest{1}, Stash: []api.Block{{Id: -2, Data: []byte{1}}}}}, Map: []int{-4}, Next: 1, Ticks: 2},
			Dev:   api.Dev{Levels: [][][]byte{{{1}}}}, Sees: []api.See{{Kind: 9, Bytes: []byte{4}}}, Data: []byte{5}, Fault: api.Fault{Code: 99, Marks: []api.Mark{{Level: -1}}},
		}
	}
	for i, turn := range []func(*api.Work){
		func(x *api.Work) { x.Store.Levels[0].Root[0]++ }, func(x *api.Work) { x.Store.Levels[0].Stash[0].Data[0]++ }, func(x *api.Work) { x.Store.Levels = nil }, func(x *api.Work) { x.Store.Map[0]++ }, func(x *api.Work) { x.Store.Map = append(x.Store.Map, 0) }, func(x *api.Work) { x.Store.Next++ }, func(x *api.Work) { x.Store.Ticks++ },
		func(x *api.Work) { x.Dev.Levels[0][0][0]++ }, func(x *api.Work) { x.Sees[0].Bytes[0]++ }, func(x *api.Work) { x.Sees = nil }, func(x *api.Work) { x.Data[0]++ }, func(x *api.Work) { x.Fault.Code++ }, func(x *api.Work) { x.Fault.Marks[0].Place++ }, func(x *api.Work) { x.Store.Levels = append(x.Store.Levels, api.Oram{}) },
	} {
		a := first()
		b := rec.Twin(a)
		if !rec.Same(a, b) {
			t.Fatal("a twin is another one")
		}
		turn(&b)
		if rec.Same(a, b) || rec.Same(b, a) {
			t.Error("the same:", i)
		}
		if !rec.Same(a, first()) {
			t.Error("a twin shares memory:", i)
		}
	}
	if !isNone(rec.Twin(api.Work{})) || !isNone(api.Work{Store: api.Store{Levels: []api.Oram{}, Map: []int{}}}) {
		t.Error("none and no element aren't the same")
	}
}

// wipe turns all that a work has.
func wipe(w api.Work) {
	for i := range w.Store.Levels {
		for _, b := range w.Store.Levels[i].Stash {
			clear(b.Data)
		}
		w.Store.Levels[i] = api.Oram{}
	}
	clear(w.Store.Map)
	for _, level := range w.Dev.Levels {
		for _, b := range level {
			clear(b)
		}
	}
	clear(w.Data)
}

// TestMemory is P20.3.
func TestMemory(t *testing.T) {
	c, s := eight(), chacha(5)
	c.Slots, c.Stash = 1, 20
	w := begin(t, c, s, 0, 0)
	cells := [][2]uint32{{0, 0}, {0, 0}, {0, 0}}
	for page := range 8 {
		w, _ = rec.Ask(c, s, w.Store, w.Dev, cells, api.Unit{Kind: api.UnitWrite, Page: page, Data: []byte("abcd")})
	}
	if len(w.Store.Levels[0].Stash) == 0 || w.Fault.Code != api.OK {
		t.Fatal("no stash to share", w.Fault)
	}
	w.Sees, w.Data = nil, nil
	kept := rec.Twin(w)
	u := api.Unit{Kind: api.UnitWrite, Page: 1, Data: []byte("efgh")}
	for _, f := range []func() (api.Work, api.Errno){
		func() (api.Work, api.Errno) { return rec.Ask(c, s, w.Store, w.Dev, cells, u) },
		func() (api.Work, api.Errno) { return rec.Ask(c, s, w.Store, w.Dev, cells, api.Unit{}) },
		func() (api.Work, api.Errno) { return rec.Halt(c, w.Store, w.Dev) },
		func() (api.Work, api.Errno) { return rec.New(c, s, 0, 0) },
	} {
		one, _ := f()
		twin := rec.Twin(one)
		wipe(one)
		if !rec.Same(api.Work{Sees: one.Sees}, api.Work{Sees: twin.Sees}) {
			t.Error("what is seen is shared with another part")
		}
		for _, x := range one.Sees {
			clear(x.Bytes)
		}
		two, e := f()
		if e != api.OK || !rec.Same(two, twin) || !rec.Same(w, kept) || string(u.Data) != "efgh" {
			t.Error("memory is shared")
		}
	}
}

// TestFollows is P20.4: pages as in a plain map; which paths are read; as many of each kind, level by level.
func TestFollows(t *testing.T) {
	r := rand.New(rand.NewSource(27))
	for i := range 12 {
		c := eight()
		c.Stash = 30
		if i%2 == 0 {
			c.Pages, c.Top, c.Fan = 30, 4, 4
		}
		levels, _ := conf.Levels(c)
		s := chacha(byte(r.Int()))
		w := begin(t, c, s, 0, 0)
		first, each, _ := conf.Seals(c)
		pages := map[int][]byte{}
		for page := range c.Pages {
			pages[page] = make([]byte, c.Size)
		}
		told := map[[2]int]uint32{}
		for tick := range uint64(80) {
			u, cells := unitOf(r, c), cellsOf(r, c)
			blocks, _, _ := conf.Road(c, u.Page)
			got, e := rec.Ask(c, s, w.Store, w.Dev, cells, u)
			if e != api.OK || got.Fault.Code != api.OK || got.Store.Ticks != tick+1 || got.Store.Next != uint64(first)+(tick+1)*uint64(each) {
				t.Fatal(got.Fault, e)
			}
			if u.Kind == api.UnitNone && len(got.Data) != 0 || u.Kind != api.UnitNone && !bytes.Equal(got.Data, pages[u.Page]) {
				t.Fatal(u, got.Data, pages[u.Page])
			}
			if u.Kind == api.UnitWrite {
				pages[u.Page] = u.Data
			}
			at := 0
			for level := len(levels) - 1; level >= 0; level-- {
				cell := cells[level][1]
				if u.Kind != api.UnitNone {
					if was, is := told[[2]int{level, blocks[level]}]; is {
						cell = was
					}
					told[[2]int{level, blocks[level]}] = cells[level][0]
				}
				leaf, _ := entry.Leaf(levels[level].High, cell)
				behind, _ := geo.Reverse(levels[level].High, tick)
				for _, leaf := range []int{leaf, behind} {
					path, _ := geo.Path(levels[level].High, leaf)
					for row := range 2 * len(path) {
						want := api.See{Kind: api.SeeRead, Level: level, Bucket: path[min(row, len(path)-1)]}
						if row >= len(path) {
							want.Kind, want.Bucket = api.SeeWrite, path[2*len(path)-1-row]
						}
						if x := got.Sees[at]; x.Kind != want.Kind || x.Level != level || x.Bucket != want.Bucket {
							t.Fatal("another path", tick, level, row)
						}
						at++
					}
				}
			}
			if at != len(got.Sees) || at != 2*each {
				t.Fatal(at, len(got.Sees))
			}
			w = got
		}
		if !lane.Covers(s, w.Store.Next, 1) {
			t.Fatal("no more numbers")
		}
	}
}
