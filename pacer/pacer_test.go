package pacer_test

import (
	"bytes"
	"math"
	"math/rand"
	"slices"
	"testing"

	"thimblerig/api"
	"thimblerig/conf"
	"thimblerig/dev"
	"thimblerig/pacer"
	"thimblerig/queue"
	"thimblerig/rec"
)

// two is the config of chapter 18's examples.
func two() api.Config {
	return api.Config{Pages: 2, Size: 1, Fan: 2, Slots: 1, Stash: 2, Frames: 1, Clients: 1, Queue: 1, Top: 2}
}

// eight is the config of chapter 8's examples, of three levels.
func eight() api.Config {
	return api.Config{Pages: 8, Size: 4, Fan: 2, Slots: 2, Stash: 8, Frames: 2, Clients: 2, Queue: 4, Top: 2}
}

func chacha(first byte) api.Source {
	return api.Source{Kind: api.FromChacha, Key: api.Key{first}}
}

func pad(width, many int) api.Source {
	return api.Source{Kind: api.FromPad, Pad: make([]byte, width*many), Width: width}
}

func isNone(p api.Paced) bool {
	return pacer.Same(p, api.Paced{})
}

// lanesOf are lanes of so many cells of all kinds, some of them used.
func lanesOf(r *rand.Rand, c api.Config, many, at int) []api.Lane {
	levels, _ := conf.Levels(c)
	var out []api.Lane
	for range levels {
		l := api.Lane{At: at}
		for range many {
			l.Cells = append(l.Cells, r.Uint32())
		}
		out = append(out, l)
	}
	return out
}

// plain is a tick, as the chapter says, by rec's.
func plain(c api.Config, s api.Source, p api.Pacer, d api.Dev) api.Paced {
	out := pacer.Twin(api.Paced{Pacer: p})
	_, each, _ := conf.Seals(c)
	short := s.Kind == api.FromPad && p.Store.Next+uint64(each) > uint64(len(s.Pad)/s.Width)
	for _, l := range p.Lanes {
		short = short || len(l.Cells)-l.At < 2
	}
	wipe := func() {
		out.Pacer.Queue = nil
		out.Pacer.Store.Map = make([]int, len(p.Store.Map))
		out.Pacer.Store.Levels = make([]api.Oram, len(p.Store.Levels))
	}
	if p.Fault.Code != api.OK || short {
		w, _ := rec.Halt(c, p.Store, d)
		out.Dev, out.Sees = w.Dev, w.Sees
		out.Pacer.Store.Ticks++
		if p.Fault.Code == api.OK {
			out.Pacer.Fault = api.Fault{Code: api.ErrEntropy}
			wipe()
		}
		return out
	}
	var cells [][2]uint32
	for i, l := range p.Lanes {
		cells = append(cells, [2]uint32{l.Cells[l.At], l.Cells[l.At+1]})
		out.Pacer.Lanes[i].At += 2
	}
	var u api.Unit
	if len(p.Queue) > 0 {
		u, out.Pacer.Queue = p.Queue[0], out.Pacer.Queue[1:]
	}
	w, e := rec.Ask(c, s, p.Store, d, cells, u)
	if e != api.OK {
		panic(e)
	}
	out.Pacer.Store, out.Dev, out.Sees = w.Store, w.Dev, w.Sees
	if w.Fault.Code != api.OK {
		wipe()
		out.Pacer.Fault = w.Fault
	} else if u.Kind != api.UnitNone {
		out.Done = []api.Done{{Unit: u, Data: w.Data}}
	}
	return out
}

// TestExample is that of the chapter.
func TestExample(t *testing.T) {
	c, s := two(), pad(73, 50)
	c.Queue = 2
	p, e := pacer.New(c, s, []api.Lane{{Cells: []uint32{0, 1, 0, 1, 0, 1}}}, 0, 0)
	if e != api.OK || len(p.Sees) != 3 || len(p.Pacer.Queue) != 0 {
		t.Fatal(p, e)
	}
	p.Pacer.Queue = []api.Unit{{Kind: api.UnitWrite, Data: []byte{5}}, {Kind: api.UnitFetch}}
	for i, want := range []struct {
		done []api.Done
		code api.Errno
	}{
		{[]api.Done{{Unit: api.Unit{Kind: api.UnitWrite, Data: []byte{5}}, Data: []byte{0}}}, api.OK},
		{[]api.Done{{Unit: api.Unit{Kind: api.UnitFetch}, Data: []byte{5}}}, api.OK},
		{nil, api.OK}, {nil, api.ErrEntropy}, {nil, api.ErrEntropy},
	} {
		p, e = pacer.Tick(c, s, p.Pacer, p.Dev)
		if e != api.OK || !pacer.Same(api.Paced{Done: p.Done}, api.Paced{Done: want.done}) || p.Pacer.Fault.Code != want.code || len(p.Pacer.Fault.Marks) != 0 || p.Pacer.Store.Ticks != uint64(i+1) || len(p.Sees) != 8 || p.Pacer.Lanes[0].At != min(6, 2*i+2) {
			t.Fatal(i, p, e)
		}
	}
}

// TestNew is P24.1.
func TestNew(t *testing.T) {
	r := rand.New(rand.NewSource(36))
	c, s := eight(), chacha(1)
	lanes := lanesOf(r, c, 7, 3)
	p, e := pacer.New(c, s, lanes, 9, 11)
	w, _ := rec.New(c, s, 9, 11)
	want := api.Paced{Pacer: api.Pacer{Store: w.Store, Lanes: lanes}, Dev: w.Dev, Sees: w.Sees}
	if e != api.OK || !pacer.Same(p, want) || pacer.Check(c, p.Pacer) != api.OK {
		t.Fatal(p, e)
	}
	p.Pacer.Lanes[0].Cells[0]++
	p.Pacer.Lanes[1].At = 0
	if lanes[0].Cells[0] == p.Pacer.Lanes[0].Cells[0] || lanes[1].At != 3 {
		t.Error("lanes are shared")
	}
	bad := c
	bad.Top = 0
	for i, x := range []struct {
		c     api.Config
		s     api.Source
		next  uint64
		lanes []api.Lane
		e     api.Errno
	}{
		{c, s, 0, lanesOf(r, c, 0, 0), api.OK}, {c, s, 0, lanesOf(r, c, api.MaxCells, api.MaxCells), api.OK},
		{bad, s, 0, nil, api.ErrBad}, {c, api.Source{}, 0, nil, api.ErrBad}, {c, pad(95, 99), 0, nil, api.ErrMany}, {c, pad(96, 24), 0, nil, api.ErrEntropy}, {c, s, math.MaxUint64, nil, api.ErrEntropy},
		{c, s, 0, nil, api.ErrArg}, {c, s, 0, lanesOf(r, c, 4, 0)[:2], api.ErrArg}, {c, s, 0, append(lanesOf(r, c, 4, 0), api.Lane{}), api.ErrArg}, {c, s, 0, lanesOf(r, c, 4, 5), api.ErrArg}, {c, s, 0, lanesOf(r, c, api.MaxCells+1, 0), api.ErrArg}, {c, s, 0, lanesOf(r, c, 4, -1), api.ErrArg},
	} {
		p, e := pacer.New(x.c, x.s, x.lanes, x.next, 0)
		if e != x.e || isNone(p) != (e != api.OK) {
			t.Error(i, e)
		}
	}
}

// TestCheck is P24.1, and that Tick asks it.
func TestCheck(t *testing.T) {
	r := rand.New(rand.NewSource(37))
	c, s := eight(), chacha(2)
	first, _ := pacer.New(c, s, lanesOf(r, c, 4, 0), 0, 0)
	fetch := api.Unit{Kind: api.UnitFetch}
	for i, x := range []struct {
		turn func(p *api.Pacer, c *api.Config)
		e    api.Errno
	}{
		{func(p *api.Pacer, c *api.Config) {}, api.OK},
		{func(p *api.Pacer, c *api.Config) { p.Queue = []api.Unit{fetch, fetch, fetch, fetch} }, api.OK},
		{func(p *api.Pacer, c *api.Config) { p.Fault = api.Fault{Code: api.ErrEntropy} }, api.OK},
		{func(p *api.Pacer, c *api.Config) {
			p.Fault = api.Fault{Code: api.ErrOverflow, Marks: []api.Mark{{Level: 1}}}
		}, api.OK},
		{func(p *api.Pacer, c *api.Config) {
			p.Fault = api.Fault{Code: api.ErrIntegrity, Marks: make([]api.Mark, 8)}
		}, api.OK},
		{func(p *api.Pacer, c *api.Config) { c.Pages = 0 }, api.ErrBad},
		{func(p *api.Pacer, c *api.Config) { p.Queue = []api.Unit{{}} }, api.ErrBad},
		{func(p *api.Pacer, c *api.Config) { p.Queue = []api.Unit{{Kind: api.UnitFetch, Frame: 2}} }, api.ErrBad},
		{func(p *api.Pacer, c *api.Config) { p.Queue = []api.Unit{fetch, fetch, fetch, fetch, fetch} }, api.ErrBad},
		{func(p *api.Pacer, c *api.Config) { p.Store = api.Store{} }, api.ErrBad},
		{func(p *api.Pacer, c *api.Config) { p.Store.Map[0] = 3 }, api.ErrBad},
		{func(p *api.Pacer, c *api.Config) { p.Lanes = p.Lanes[1:] }, api.ErrBad},
		{func(p *api.Pacer, c *api.Config) { p.Lanes = append(p.Lanes, api.Lane{}) }, api.ErrBad},
		{func(p *api.Pacer, c *api.Config) { p.Lanes[2].At = 5 }, api.ErrBad},
		{func(p *api.Pacer, c *api.Config) { p.Fault = api.Fault{Code: api.ErrBusy} }, api.ErrBad},
		{func(p *api.Pacer, c *api.Config) { p.Fault = api.Fault{Code: 1} }, api.ErrBad},
		{func(p *api.Pacer, c *api.Config) { p.Fault = api.Fault{Marks: []api.Mark{{}}} }, api.ErrBad},
		{func(p *api.Pacer, c *api.Config) {
			p.Fault = api.Fault{Code: api.ErrEntropy, Marks: []api.Mark{{Level: -1}}}
		}, api.ErrBad},
		{func(p *api.Pacer, c *api.Config) {
			p.Fault = api.Fault{Code: api.ErrEntropy, Marks: make([]api.Mark, 9)}
		}, api.ErrBad},
	} {
		p, c := pacer.Twin(first), c
		x.turn(&p.Pacer, &c)
		if e := pacer.Check(c, p.Pacer); e != x.e {
			t.Error("Check", i, e)
		}
		got, e := pacer.Tick(c, s, p.Pacer, p.Dev)
		if e != x.e || isNone(got) != (e != api.OK) {
			t.Error("Tick", i, e)
		}
	}
	other, _ := dev.New(two())
	for i, x := range []struct {
		s api.Source
		d api.Dev
		e api.Errno
	}{{api.Source{}, first.Dev, api.ErrBad}, {pad(95, 9), other, api.ErrBad}, {pad(95, 9), api.Dev{}, api.ErrBad}, {pad(95, 9), first.Dev, api.ErrMany}, {pad(96, 0), first.Dev, api.OK}} {
		got, e := pacer.Tick(c, x.s, first.Pacer, x.d)
		if e != x.e || isNone(got) != (e != api.OK) {
			t.Error(i, e)
		}
	}
	faulty := pacer.Twin(first)
	faulty.Pacer.Fault.Code = api.ErrEntropy
	if _, e := pacer.Tick(c, pad(95, 9), faulty.Pacer, faulty.Dev); e != api.ErrMany {
		t.Error("a fault doesn't come ahead of ErrMany:", e)
	}
}

// TestAsPlain is P24.2 and P24.4: ticks of all kinds, up to faults and behind them.
func TestAsPlain(t *testing.T) {
	r := rand.New(rand.NewSource(38))
	codes := map[api.Errno]int{}
	for range 60 {
		c := eight()
		crowded := r.Intn(2) == 0
		c.Stash = 20
		if crowded {
			c.Stash, c.Slots = 1, 1
		}
		many, _, _ := conf.Seals(c)
		s := chacha(byte(r.Int()))
		if r.Intn(3) == 0 {
			s = pad(96, many+100+r.Intn(200))
		}
		p, e := pacer.New(c, s, lanesOf(r, c, r.Intn(60), 0), 0, 5)
		if e != api.OK {
			t.Fatal(e)
		}
		for _, l := range p.Pacer.Lanes {
			if crowded {
				clear(l.Cells)
			}
		}
		level := r.Intn(len(p.Pacer.Lanes))
		p.Pacer.Lanes[level].Cells = p.Pacer.Lanes[level].Cells[:len(p.Pacer.Lanes[level].Cells)*3/4]
		for range 25 {
			if q := p.Pacer.Queue; r.Intn(4) > 0 && len(q) < 4 {
				u := api.Unit{Kind: api.UnitFetch, Page: r.Intn(8), Frame: r.Intn(2)}
				if r.Intn(2) == 0 {
					u.Kind, u.Data = api.UnitWrite, []byte{byte(r.Int()), 2, 3, 4}
				}
				p.Pacer.Queue, _ = queue.Put(c, q, []api.Unit{u})
			}
			if r.Intn(80) == 0 {
				p.Dev.Levels[r.Intn(3)][r.Intn(3)][r.Intn(76)] ^= 4
			}
			kept := pacer.Twin(p)
			want := plain(c, s, p.Pacer, p.Dev)
			got, e := pacer.Tick(c, s, p.Pacer, p.Dev)
			if e != api.OK || !pacer.Same(got, want) || !pacer.Same(p, kept) {
				t.Fatal(got.Pacer.Fault, want.Pacer.Fault, e)
			}
			if len(got.Sees) != 36 || pacer.Check(c, got.Pacer) != api.OK {
				t.Fatal(len(got.Sees))
			}
			if p.Pacer.Fault.Code != api.OK && (!dev.Same(got.Dev, p.Dev) || got.Pacer.Fault.Code != p.Pacer.Fault.Code || len(got.Done) != 0) {
				t.Fatal("a fault doesn't stay")
			}
			codes[got.Pacer.Fault.Code]++
			p = got
		}
	}
	for _, code := range []api.Errno{api.OK, api.ErrEntropy, api.ErrIntegrity, api.ErrOverflow} {
		if codes[code] < 20 {
			t.Error("too few of a kind:", int(code), codes[code])
		}
	}
}

// TestUsedUp is P24.2: one cell too few in any lane, one number too few; and lanes as they are.
func TestUsedUp(t *testing.T) {
	r := rand.New(rand.NewSource(39))
	c := eight()
	for level := range 3 {
		for left := range 4 {
			lanes := lanesOf(r, c, 10, 2)
			lanes[level].At = 10 - left
			p, _ := pacer.New(c, chacha(3), lanes, 0, 0)
			p.Pacer.Queue = []api.Unit{{Kind: api.UnitFetch, Page: 3}}
			got, e := pacer.Tick(c, chacha(3), p.Pacer, p.Dev)
			if e != api.OK {
				t.Fatal(e)
			}
			if left >= 2 {
				if got.Pacer.Fault.Code != api.OK || got.Pacer.Lanes[level].At != 12-left || len(got.Done) != 1 {
					t.Error(level, left, got.Pacer.Fault)
				}
				continue
			}
			if f := got.Pacer.Fault; f.Code != api.ErrEntropy || len(f.Marks) != 0 || len(got.Done) != 0 || len(got.Pacer.Queue) != 0 {
				t.Error(level, left, f)
			}
			if !pacer.Same(api.Paced{Pacer: api.Pacer{Lanes: got.Pacer.Lanes}}, api.Paced{Pacer: api.Pacer{Lanes: lanes}}) {
				t.Error("lanes are turned")
			}
			want := api.Store{Levels: make([]api.Oram, 3), Map: make([]int, 2), Next: 25, Ticks: 1}
			if !rec.Same(api.Work{Store: got.Pacer.Store}, api.Work{Store: want}) || !dev.Same(got.Dev, p.Dev) {
				t.Error("something is trusted", got.Pacer.Store)
			}
		}
	}
	for _, more := range []int{17, 18} {
		s := pad(96, 25+more)
		p, _ := pacer.New(c, s, lanesOf(r, c, 10, 0), 0, 0)
		got, e := pacer.Tick(c, s, p.Pacer, p.Dev)
		if e != api.OK || (got.Pacer.Fault.Code == api.ErrEntropy) != (more == 17) {
			t.Error(more, got.Pacer.Fault, e)
		}
	}
	// A tick may use the last number of all, but no number behind it.
	for from, want := range map[uint64]api.Errno{math.MaxUint64 - 42: api.OK, math.MaxUint64 - 41: api.ErrEntropy} {
		p, _ := pacer.New(c, chacha(4), lanesOf(r, c, 10, 0), from, 0)
		got, e := pacer.Tick(c, chacha(4), p.Pacer, p.Dev)
		if e != api.OK || got.Pacer.Fault.Code != want || (want == api.OK) != (got.Pacer.Store.Next == 0) {
			t.Error(from, got.Pacer.Store.Next, got.Pacer.Fault, e)
		}
	}
}

// TestFaultStays is P24.2: behind a fault all else stays, but for the ticks; also where a queue waits.
func TestFaultStays(t *testing.T) {
	r := rand.New(rand.NewSource(40))
	c, s := eight(), chacha(5)
	p, _ := pacer.New(c, s, lanesOf(r, c, 10, 0), 0, math.MaxUint64)
	p.Pacer.Queue = []api.Unit{{Kind: api.UnitFetch, Page: 3}}
	p.Pacer.Fault = api.Fault{Code: api.ErrIntegrity, Marks: []api.Mark{{Level: 1, Place: 2}}}
	got, e := pacer.Tick(c, s, p.Pacer, p.Dev)
	halted, _ := rec.Halt(c, p.Pacer.Store, p.Dev)
	want := pacer.Twin(p)
	want.Sees, want.Pacer.Store.Ticks = halted.Sees, 0
	if e != api.OK || !pacer.Same(got, want) {
		t.Error(got.Pacer, e)
	}
}

// TestSameAndTwin is P24.1, of any ones.
func TestSameAndTwin(t *testing.T) {
	first := func() api.Paced {
		return api.Paced{
			Pacer: api.Pacer{Queue: []api.Unit{{Kind: 7, Data: []byte{1}}}, Store: api.Store{Map: []int{-4}, Next: 1}, Lanes: []api.Lane{{Cells: []uint32{1}, At: -4}}, Fault: api.Fault{Code: 1, Marks: []api.Mark{{Level: -1}}}},
			Dev:   api.Dev{Levels: [][][]byte{{{1}}}}, Sees: []api.See{{Kind: 9, Bytes: []byte{4}}}, Done: []api.Done{{Unit: api.Unit{Kind: 9, Data: []byte{2}}, Data: []byte{3}}},
		}
	}
	for i, turn := range []func(*api.Paced){
		func(x *api.Paced) { x.Pacer.Queue[0].Kind++ }, func(x *api.Paced) { x.Pacer.Queue[0].Data[0]++ }, func(x *api.Paced) { x.Pacer.Queue = nil }, func(x *api.Paced) { x.Pacer.Store.Map[0]++ }, func(x *api.Paced) { x.Pacer.Store.Next++ },
		func(x *api.Paced) { x.Pacer.Lanes[0].At++ }, func(x *api.Paced) { x.Pacer.Lanes[0].Cells[0]++ }, func(x *api.Paced) { x.Pacer.Lanes = nil }, func(x *api.Paced) { x.Pacer.Lanes = append(x.Pacer.Lanes, api.Lane{}) }, func(x *api.Paced) { x.Pacer.Fault.Code++ }, func(x *api.Paced) { x.Pacer.Fault.Marks[0].Place++ },
		func(x *api.Paced) { x.Dev.Levels[0][0][0]++ }, func(x *api.Paced) { x.Sees[0].Bytes[0]++ }, func(x *api.Paced) { x.Done = nil }, func(x *api.Paced) { x.Done[0].Unit.Frame++ }, func(x *api.Paced) { x.Done[0].Unit.Data[0]++ }, func(x *api.Paced) { x.Done[0].Data[0]++ }, func(x *api.Paced) { x.Done = append(x.Done, api.Done{}) },
	} {
		a := first()
		b := pacer.Twin(a)
		if !pacer.Same(a, b) {
			t.Fatal("a twin is another one")
		}
		turn(&b)
		if pacer.Same(a, b) || pacer.Same(b, a) {
			t.Error("the same:", i)
		}
		if !pacer.Same(a, first()) {
			t.Error("a twin shares memory:", i)
		}
	}
	if !isNone(pacer.Twin(api.Paced{})) || !isNone(api.Paced{Done: []api.Done{}, Pacer: api.Pacer{Lanes: []api.Lane{}}}) {
		t.Error("none and no element aren't the same")
	}
}

// TestMemory is P24.3.
func TestMemory(t *testing.T) {
	r := rand.New(rand.NewSource(41))
	c, s := eight(), chacha(6)
	p, _ := pacer.New(c, s, lanesOf(r, c, 10, 0), 0, 0)
	p.Pacer.Queue = []api.Unit{{Kind: api.UnitWrite, Page: 3, Data: []byte("abcd")}, {Kind: api.UnitWrite, Page: 3, Data: []byte("efgh")}}
	p.Sees = nil
	faulty := pacer.Twin(p)
	faulty.Pacer.Fault = api.Fault{Code: api.ErrEntropy, Marks: []api.Mark{{Level: 1}}}
	for _, p := range []api.Paced{p, faulty} {
		kept := pacer.Twin(p)
		one, _ := pacer.Tick(c, s, p.Pacer, p.Dev)
		twin := pacer.Twin(one)
		for i := range one.Pacer.Queue {
			clear(one.Pacer.Queue[i].Data)
		}
		for i := range one.Pacer.Lanes {
			clear(one.Pacer.Lanes[i].Cells)
		}
		for i := range one.Done {
			clear(one.Done[i].Unit.Data)
			if i == 0 && !bytes.Equal(one.Done[i].Data, twin.Done[i].Data) {
				t.Error("data are shared")
			}
			clear(one.Done[i].Data)
		}
		for _, b := range slices.Concat(one.Dev.Levels...) {
			clear(b)
		}
		clear(one.Pacer.Fault.Marks)
		clear(one.Pacer.Store.Map)
		for _, x := range one.Sees {
			clear(x.Bytes)
		}
		two, e := pacer.Tick(c, s, p.Pacer, p.Dev)
		if e != api.OK || !pacer.Same(two, twin) || !pacer.Same(p, kept) {
			t.Error("memory is shared")
		}
	}
}

// TestFollows is P24.4: units are served in order, one a tick, and a page has what was written to it last.
func TestFollows(t *testing.T) {
	r := rand.New(rand.NewSource(42))
	for range 6 {
		c, s := eight(), chacha(byte(r.Int()))
		c.Stash, c.Queue = 30, 16
		p, _ := pacer.New(c, s, lanesOf(r, c, 200, 0), 0, 0)
		pages := map[int][]byte{}
		var waits []api.Unit
		for range 90 {
			var more []api.Unit
			for range r.Intn(3) {
				u := api.Unit{Kind: api.UnitFetch, Page: r.Intn(8), Frame: r.Intn(2)}
				if r.Intn(2) == 0 {
					u.Kind, u.Data = api.UnitWrite, []byte{byte(r.Int()), 2, 3, 4}
				}
				more = append(more, u)
			}
			if q, e := queue.Put(c, p.Pacer.Queue, more); e == api.OK {
				p.Pacer.Queue, waits = q, append(waits, more...)
			}
			next, e := pacer.Tick(c, s, p.Pacer, p.Dev)
			if e != api.OK || next.Pacer.Fault.Code != api.OK || len(next.Sees) != 36 {
				t.Fatal(next.Pacer.Fault, e)
			}
			if len(waits) == 0 {
				if len(next.Done) != 0 {
					t.Fatal("served what nobody asked")
				}
			} else {
				had := pages[waits[0].Page]
				if had == nil {
					had = make([]byte, 4)
				}
				if !pacer.Same(api.Paced{Done: next.Done}, api.Paced{Done: []api.Done{{Unit: waits[0], Data: had}}}) {
					t.Fatal("served another one", next.Done, waits[0])
				}
				if waits[0].Kind == api.UnitWrite {
					pages[waits[0].Page] = waits[0].Data
				}
				waits = waits[1:]
			}
			p = next
		}
	}
}
