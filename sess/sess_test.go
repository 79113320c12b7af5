package sess_test

import (
	"bytes"
	"math"
	"math/rand"
	"slices"
	"testing"

	"thimblerig/api"
	"thimblerig/conf"
	"thimblerig/dev"
	"thimblerig/frames"
	"thimblerig/pacer"
	"thimblerig/pool"
	"thimblerig/sess"
)

// two is the config of chapter 18's examples.
func two() api.Config {
	return api.Config{Pages: 2, Size: 1, Fan: 2, Slots: 1, Stash: 2, Frames: 1, Clients: 1, Queue: 1, Top: 2}
}

// many is a config of two levels, three clients and 6 pages of 1 byte.
func many(framesOf, places int) api.Config {
	return api.Config{Pages: 6, Size: 1, Fan: 2, Slots: 2, Stash: 20, Frames: framesOf, Clients: 3, Queue: places, Top: 4}
}

func chacha(first byte) api.Source {
	return api.Source{Kind: api.FromChacha, Key: api.Key{first}}
}

func lanesOf(c api.Config, many int) []api.Lane {
	levels, _ := conf.Levels(c)
	var out []api.Lane
	for level := range levels {
		l := api.Lane{Cells: make([]uint32, many)}
		for i := range l.Cells {
			l.Cells[i] = uint32(i*i*7 + level*3 + i/5)
		}
		out = append(out, l)
	}
	return out
}

func call(kind uint8, page int, data ...byte) api.Call {
	return api.Call{Kind: kind, Page: page, Data: data}
}

func isNone(s api.Sessed) bool { return sess.Same(s, api.Sessed{}) }

func same(a, b api.Sess) bool { return sess.Same(api.Sessed{Sess: a}, api.Sessed{Sess: b}) }

func begin(t *testing.T, c api.Config, cells int, calls ...[]api.Call) api.Sessed {
	t.Helper()
	s, e := sess.New(c, chacha(1), lanesOf(c, cells), calls, 0, 0)
	if e != api.OK {
		t.Fatal(e)
	}
	return s
}

func step(t *testing.T, c api.Config, s *api.Sessed, client int) {
	t.Helper()
	out, e := sess.Step(c, s.Sess, client)
	if e != api.OK {
		t.Fatal(e)
	}
	s.Sess = out
}

func tick(t *testing.T, c api.Config, s *api.Sessed) {
	t.Helper()
	out, e := sess.Tick(c, chacha(1), s.Sess, s.Dev)
	if e != api.OK {
		t.Fatal(e)
	}
	*s = out
}

func sameRets(a, b []api.Ret) bool { return same(api.Sess{Rets: a}, api.Sess{Rets: b}) }

// TestExample is that of the chapter.
func TestExample(t *testing.T) {
	c := two()
	s := begin(t, c, 6, []api.Call{call(api.CallFetch, 1), call(api.CallWrite, 1, 9), call(api.CallRead, 1)})
	step(t, c, &s, 0)
	if x := s.Sess.Clients[0]; x.Wait != 1 || x.At != 0 || len(s.Sess.Rets) != 0 {
		t.Fatal(x)
	}
	before := s.Sess
	step(t, c, &s, 0)
	if !same(before, s.Sess) {
		t.Fatal("one that waits steps")
	}
	tick(t, c, &s)
	step(t, c, &s, 0)
	step(t, c, &s, 0)
	want := []api.Ret{{Tick: 1}, {Call: 1, Tick: 1}, {Call: 2, Tick: 1, Data: []byte{9}}}
	if !sameRets(s.Sess.Rets, want) || s.Sess.Clients[0].At != 3 {
		t.Fatal(s.Sess.Rets)
	}
	before = s.Sess
	step(t, c, &s, 0)
	if !same(before, s.Sess) {
		t.Fatal("a client steps without calls")
	}
}

// TestNew is P27.1.
func TestNew(t *testing.T) {
	c := many(2, 4)
	calls := [][]api.Call{{call(api.CallWrite, 1, 9)}, nil, {call(api.CallFetch, -5), call(api.CallSeal, 0)}}
	s, e := sess.New(c, chacha(2), lanesOf(c, 9), calls, 7, math.MaxUint64)
	p, _ := pacer.New(c, chacha(2), lanesOf(c, 9), 7, math.MaxUint64)
	f, _ := frames.New(c)
	want := api.Sessed{Sess: api.Sess{Frames: f, Pacer: p.Pacer, Clients: []api.Client{{Calls: calls[0]}, {}, {Calls: calls[2]}}}, Dev: p.Dev, Sees: p.Sees}
	if e != api.OK || !sess.Same(s, want) || sess.Check(c, s.Sess) != api.OK {
		t.Fatal(s, e)
	}
	s.Sess.Clients[0].Calls[0].Data[0] = 1
	s.Sess.Clients[2].Calls[1].Page = 1
	if calls[0][0].Data[0] != 9 || calls[2][1].Page != 0 {
		t.Error("calls are shared")
	}
	odd := c
	odd.Queue = 17
	flush := call(api.CallFlush, 0)
	for i, x := range []struct {
		c     api.Config
		s     api.Source
		lanes []api.Lane
		calls [][]api.Call
		e     api.Errno
	}{
		{c, chacha(2), lanesOf(c, 0), make([][]api.Call, 3), api.OK}, {c, chacha(2), lanesOf(c, 0), [][]api.Call{slices.Repeat([]api.Call{flush}, 64), nil, nil}, api.OK},
		{odd, chacha(2), nil, nil, api.ErrBad}, {c, api.Source{}, nil, nil, api.ErrBad}, {c, api.Source{Kind: api.FromPad, Width: 1}, nil, nil, api.ErrMany}, {c, api.Source{Kind: api.FromPad, Width: 99}, nil, nil, api.ErrEntropy}, {c, chacha(2), nil, make([][]api.Call, 3), api.ErrArg},
		{c, chacha(2), lanesOf(c, 0), nil, api.ErrArg}, {c, chacha(2), lanesOf(c, 0), make([][]api.Call, 2), api.ErrArg}, {c, chacha(2), lanesOf(c, 0), make([][]api.Call, 4), api.ErrArg},
		{c, chacha(2), lanesOf(c, 0), [][]api.Call{nil, nil, slices.Repeat([]api.Call{flush}, 65)}, api.ErrArg}, {c, chacha(2), lanesOf(c, 0), [][]api.Call{nil, {flush, {}}, nil}, api.ErrArg}, {c, chacha(2), lanesOf(c, 0), [][]api.Call{{call(api.CallWrite, 0)}, nil, nil}, api.ErrArg}, {c, chacha(2), lanesOf(c, 0), [][]api.Call{{call(api.CallRead, 0, 1)}, nil, nil}, api.ErrArg},
	} {
		s, e := sess.New(x.c, x.s, x.lanes, x.calls, 0, 0)
		if e != x.e || isNone(s) != (e != api.OK) {
			t.Error(i, e)
		}
	}
}

// TestCheck is P27.1, and that Step and Tick ask it first.
func TestCheck(t *testing.T) {
	c := many(2, 4)
	first := begin(t, c, 9, []api.Call{call(api.CallFetch, 1), call(api.CallFlush, 0)}, nil, []api.Call{call(api.CallSeal, 0)})
	step(t, c, &first, 0)
	for i, x := range []struct {
		turn func(s *api.Sess, c *api.Config)
		e    api.Errno
	}{
		{func(s *api.Sess, c *api.Config) {}, api.OK},
		{func(s *api.Sess, c *api.Config) { s.Clients[2].Wait = 1 }, api.OK},
		{func(s *api.Sess, c *api.Config) { s.Clients[0].At, s.Clients[0].Wait = 2, 0 }, api.OK},
		{func(s *api.Sess, c *api.Config) {
			s.Rets = []api.Ret{{Client: -1, Call: 99, Code: 1, Data: []byte{1, 2}, Seal: true}}
		}, api.OK},
		{func(s *api.Sess, c *api.Config) { c.Clients = 5 }, api.ErrBad},
		{func(s *api.Sess, c *api.Config) { s.Frames.Hand = 2 }, api.ErrBad},
		{func(s *api.Sess, c *api.Config) { s.Pacer.Queue = nil; s.Clients[0].Wait = 0 }, api.ErrBad},
		{func(s *api.Sess, c *api.Config) { s.Pacer.Lanes = nil }, api.ErrBad},
		{func(s *api.Sess, c *api.Config) { s.Pacer.Fault.Code = api.ErrPage }, api.ErrBad},
		{func(s *api.Sess, c *api.Config) { s.Pacer.Store.Map = nil }, api.ErrBad},
		{func(s *api.Sess, c *api.Config) { s.Clients = s.Clients[:2] }, api.ErrBad},
		{func(s *api.Sess, c *api.Config) { s.Clients = append(s.Clients, api.Client{}) }, api.ErrBad},
		{func(s *api.Sess, c *api.Config) { s.Clients[1].At = 1 }, api.ErrBad},
		{func(s *api.Sess, c *api.Config) { s.Clients[1].At = -1 }, api.ErrBad},
		{func(s *api.Sess, c *api.Config) { s.Clients[2].Wait = 2 }, api.ErrBad},
		{func(s *api.Sess, c *api.Config) { s.Clients[2].Wait = -1 }, api.ErrBad},
		{func(s *api.Sess, c *api.Config) { s.Clients[1].Wait = 1 }, api.ErrBad},
		{func(s *api.Sess, c *api.Config) { s.Clients[0].At = 2 }, api.ErrBad},
		{func(s *api.Sess, c *api.Config) { s.Clients[1].Calls = []api.Call{{}} }, api.ErrBad},
		{func(s *api.Sess, c *api.Config) {
			s.Clients[1].Calls = slices.Repeat([]api.Call{call(api.CallSeal, 0)}, 65)
		}, api.ErrBad},
		{func(s *api.Sess, c *api.Config) { s.Rets = make([]api.Ret, 257) }, api.ErrBad},
	} {
		s, c := sess.Twin(first), c
		x.turn(&s.Sess, &c)
		if e := sess.Check(c, s.Sess); e != x.e {
			t.Error("Check", i, e)
		}
		if x.e == api.OK {
			continue
		}
		if out, e := sess.Step(c, s.Sess, 99); e != x.e || !same(out, api.Sess{}) {
			t.Error("Step", i, e)
		}
		if out, e := sess.Tick(c, api.Source{}, s.Sess, api.Dev{}); e != x.e || !isNone(out) {
			t.Error("Tick", i, e)
		}
	}
}

// TestRefuses is P27.2 and P27.3: what is asked next, and how many Rets there may be.
func TestRefuses(t *testing.T) {
	c := many(2, 4)
	s := begin(t, c, 9, []api.Call{call(api.CallFlush, 0)}, nil, nil)
	for _, client := range []int{-1, 3, math.MinInt, math.MaxInt} {
		full := sess.Twin(s).Sess
		full.Rets = make([]api.Ret, 256)
		for _, x := range []api.Sess{s.Sess, full} {
			if out, e := sess.Step(c, x, client); e != api.ErrArg || !same(out, api.Sess{}) {
				t.Error(client, e)
			}
		}
	}
	for rets, want := range map[int]struct{ step, tick api.Errno }{
		0: {api.OK, api.OK}, 253: {api.OK, api.OK}, 254: {api.OK, api.ErrMany}, 255: {api.OK, api.ErrMany}, 256: {api.ErrMany, api.ErrMany},
	} {
		now := sess.Twin(s)
		now.Sess.Rets = make([]api.Ret, rets)
		for client := range 3 {
			out, e := sess.Step(c, now.Sess, client)
			if e != want.step || (e == api.OK) == same(out, api.Sess{}) {
				t.Error(rets, client, e)
			}
		}
		out, e := sess.Tick(c, chacha(1), now.Sess, now.Dev)
		if e != want.tick || (e == api.OK) == isNone(out) {
			t.Error(rets, e)
		}
	}
	full := sess.Twin(s)
	full.Sess.Rets = make([]api.Ret, 256)
	for i, x := range []struct {
		src api.Source
		d   api.Dev
		e   api.Errno
	}{{api.Source{}, full.Dev, api.ErrBad}, {chacha(1), api.Dev{}, api.ErrBad}, {api.Source{Kind: api.FromPad, Width: 1}, full.Dev, api.ErrMany}, {chacha(1), full.Dev, api.ErrMany}} {
		if out, e := sess.Tick(c, x.src, full.Sess, x.d); e != x.e || !isNone(out) {
			t.Error(i, e)
		}
	}
}

// plainStep is a client's step, as the chapter says, by pool's calls.
func plainStep(c api.Config, was api.Sess, client int) api.Sess {
	s := sess.Twin(api.Sessed{Sess: was}).Sess
	x := &s.Clients[client]
	if x.At == len(x.Calls) || x.Wait > 0 {
		return s
	}
	r := api.Ret{Client: client, Call: x.At, Tick: s.Pacer.Store.Ticks, Code: s.Pacer.Fault.Code}
	if r.Code == api.OK {
		p, e := pool.Do(c, s.Frames, s.Pacer.Queue, client, x.Calls[x.At])
		if e != api.OK {
			panic(e)
		}
		s.Frames, s.Pacer.Queue = p.Frames, p.Queue
		if x.Wait = p.Wait; p.Wait > 0 {
			return s
		}
		r.Code, r.Data, r.Seal = p.Code, p.Data, p.Seal
	}
	x.At++
	s.Rets = append(s.Rets, r)
	return s
}

// plainTick is a tick, as the chapter says, by the pacer's.
func plainTick(c api.Config, src api.Source, was api.Sess, d api.Dev) api.Sessed {
	s := sess.Twin(api.Sessed{Sess: was}).Sess
	p, e := pacer.Tick(c, src, s.Pacer, d)
	if e != api.OK {
		panic(e)
	}
	wrong := s.Pacer.Fault.Code == api.OK && p.Pacer.Fault.Code != api.OK
	s.Pacer = p.Pacer
	if len(p.Done) == 1 {
		s.Frames, e = pool.Served(c, s.Frames, p.Done[0])
		if e != api.OK {
			panic(e)
		}
	}
	if wrong {
		s.Frames, _ = frames.New(c)
	}
	for client := range s.Clients {
		x := &s.Clients[client]
		if x.Wait > 0 && (wrong || len(p.Done) == 1) {
			x.Wait--
			if wrong {
				x.Wait = 0
			}
			if x.Wait == 0 {
				s.Rets = append(s.Rets, api.Ret{Client: client, Call: x.At, Tick: s.Pacer.Store.Ticks, Code: s.Pacer.Fault.Code})
				x.At++
			}
		}
	}
	return api.Sessed{Sess: s, Dev: p.Dev, Sees: p.Sees}
}

// callsOf are calls of all kinds.
func callsOf(r *rand.Rand, c api.Config, many int) [][]api.Call {
	out := make([][]api.Call, c.Clients)
	for client := range out {
		for range many {
			x := call([]uint8{1, 1, 1, 2, 2, 3, 3, 3, 4, 4, 5, 6}[r.Intn(12)], r.Intn(c.Pages))
			if r.Intn(40) == 0 {
				x.Page = c.Pages
			}
			if x.Kind == api.CallWrite {
				x.Data = []byte{byte(r.Int())}
			}
			out[client] = append(out[client], x)
		}
	}
	return out
}

// TestAsPlain is P27.2, P27.3 and P27.4: sessions of all kinds, up to faults and behind them, held against the chapter's words and a plain map.
func TestAsPlain(t *testing.T) {
	r := rand.New(rand.NewSource(45))
	codes := map[api.Errno]int{}
	reads := 0
	for round := range 36 {
		c := many(1+r.Intn(4), 1+r.Intn(5))
		s := begin(t, c, 20+r.Intn(200), callsOf(r, c, 50)...)
		pages := make([]byte, c.Pages)
		gone := make([]int, c.Clients)
		waits := make([]int, c.Clients)
		seen := 0
		for range 200 {
			if len(s.Sess.Rets) > 250 {
				break
			}
			kept := sess.Twin(s)
			var want api.Sessed
			isTick := r.Intn(3) == 0
			if isTick {
				if round%3 == 0 && r.Intn(60) == 0 {
					s.Dev.Levels[r.Intn(2)][r.Intn(3)][20] ^= 8
					kept.Dev = dev.Twin(s.Dev)
				}
				want = plainTick(c, chacha(1), s.Sess, s.Dev)
				out, e := sess.Tick(c, chacha(1), s.Sess, s.Dev)
				if e != api.OK || !sess.Same(out, want) || !sess.Same(s, kept) {
					t.Fatal("Tick", out.Sess.Rets, want.Sess.Rets, e)
				}
				s = out
			} else {
				client := r.Intn(c.Clients)
				out, e := sess.Step(c, s.Sess, client)
				if e != api.OK || !same(out, plainStep(c, s.Sess, client)) || !sess.Same(s, kept) {
					t.Fatal("Step", e)
				}
				s.Sess = out
				if out.Clients[client].Wait > 0 && waits[client] == 0 {
					waits[client] = out.Clients[client].Wait
				}
			}
			if sess.Check(c, s.Sess) != api.OK {
				t.Fatal("a session that may not be")
			}
			for client := range waits {
				if isTick && waits[client] > 0 {
					waits[client]--
					x := s.Sess.Clients[client]
					if s.Sess.Pacer.Fault.Code == api.OK && x.Wait != waits[client] {
						t.Fatal("a call waits for another number of ticks", x.Wait, waits)
					}
					waits[client] = x.Wait
				}
			}
			for _, x := range s.Sess.Rets[seen:] {
				asked := s.Sess.Clients[x.Client].Calls[x.Call]
				if x.Call != gone[x.Client] {
					t.Fatal("another call ended", x)
				}
				gone[x.Client]++
				codes[x.Code]++
				if kept.Sess.Pacer.Fault.Code != api.OK && (x.Code != kept.Sess.Pacer.Fault.Code || len(x.Data) > 0 || x.Seal) {
					t.Fatal("behind a fault", x)
				}
				if x.Code == api.OK && asked.Kind == api.CallWrite {
					pages[asked.Page] = asked.Data[0]
				}
				if x.Code == api.OK && asked.Kind == api.CallRead {
					reads++
					if !bytes.Equal(x.Data, pages[asked.Page:asked.Page+1]) {
						t.Fatal("a read tells otherwise", x, pages)
					}
				}
			}
			seen = len(s.Sess.Rets)
		}
	}
	for _, code := range []api.Errno{api.OK, api.ErrEntropy, api.ErrIntegrity, api.ErrBusy, api.ErrNoFrame, api.ErrPin, api.ErrPage} {
		if codes[code] < 20 {
			t.Error("too few of a kind:", int(code), codes[code])
		}
	}
	if reads < 100 {
		t.Error("too few reads:", reads)
	}
}

// TestWrongTick is P27.3: where a tick goes wrong, all that wait end by its code, in their order, and all frames are free.
func TestWrongTick(t *testing.T) {
	c := many(3, 4)
	s := begin(t, c, 2, []api.Call{call(api.CallFetch, 1)}, []api.Call{call(api.CallFetch, 2), call(api.CallSeal, 0)}, []api.Call{call(api.CallFetch, 3)})
	for _, client := range []int{2, 1, 0} {
		step(t, c, &s, client)
	}
	tick(t, c, &s)
	if !sameRets(s.Sess.Rets, []api.Ret{{Client: 2, Tick: 1}}) {
		t.Fatal(s.Sess.Rets)
	}
	tick(t, c, &s)
	want := []api.Ret{{Client: 2, Tick: 1}, {Client: 0, Tick: 2, Code: api.ErrEntropy}, {Client: 1, Tick: 2, Code: api.ErrEntropy}}
	free, _ := frames.New(c)
	if !sameRets(s.Sess.Rets, want) || !frames.Same(s.Sess.Frames, free) || len(s.Sess.Pacer.Queue) != 0 {
		t.Fatal(s.Sess.Rets, s.Sess.Frames)
	}
	tick(t, c, &s)
	step(t, c, &s, 1)
	want = append(want, api.Ret{Client: 1, Call: 1, Tick: 3, Code: api.ErrEntropy})
	if !sameRets(s.Sess.Rets, want) || s.Sess.Clients[1].At != 2 {
		t.Fatal(s.Sess.Rets)
	}
}

// TestWaitsTogether is P27.3: clients that wait for one page end at one tick, in their order.
func TestWaitsTogether(t *testing.T) {
	c := many(2, 4)
	s := begin(t, c, 20, []api.Call{call(api.CallFlush, 0)}, []api.Call{call(api.CallFetch, 5)}, []api.Call{call(api.CallFetch, 5), call(api.CallUnpin, 5), call(api.CallSeal, 0), call(api.CallRead, 5)})
	step(t, c, &s, 2)
	step(t, c, &s, 1)
	step(t, c, &s, 0)
	tick(t, c, &s)
	want := []api.Ret{{Client: 0, Tick: 1}, {Client: 1, Tick: 1}, {Client: 2, Tick: 1}}
	if !sameRets(s.Sess.Rets, want) {
		t.Fatal(s.Sess.Rets)
	}
	for range 3 {
		step(t, c, &s, 2)
	}
	want = append(want, api.Ret{Client: 2, Call: 1, Tick: 1}, api.Ret{Client: 2, Call: 2, Tick: 1, Code: api.ErrPin}, api.Ret{Client: 2, Call: 3, Tick: 1, Code: api.ErrPin})
	if !sameRets(s.Sess.Rets, want) {
		t.Fatal(s.Sess.Rets)
	}
	alone := begin(t, c, 20, []api.Call{call(api.CallSeal, 0)}, nil, nil)
	step(t, c, &alone, 0)
	if !sameRets(alone.Sess.Rets, []api.Ret{{Seal: true}}) {
		t.Fatal(alone.Sess.Rets)
	}
}

// TestSameAndTwin is P27.1, of any ones.
func TestSameAndTwin(t *testing.T) {
	first := func() api.Sessed {
		return api.Sessed{
			Sess: api.Sess{
				Frames: api.Frames{All: []api.Frame{{Kind: 9}}, Hand: -1}, Pacer: api.Pacer{Queue: []api.Unit{{Kind: 7}}, Fault: api.Fault{Code: 1}, Lanes: []api.Lane{{At: -2}}},
				Clients: []api.Client{{Calls: []api.Call{{Kind: 99, Data: []byte{1}}}, At: -3, Wait: -4}}, Rets: []api.Ret{{Client: -1, Call: -2, Tick: 3, Code: 4, Data: []byte{5}, Seal: true}},
			},
			Dev: api.Dev{Levels: [][][]byte{{{1}}}}, Sees: []api.See{{Kind: 9, Bytes: []byte{4}}},
		}
	}
	for i, turn := range []func(*api.Sessed){
		func(x *api.Sessed) { x.Sess.Frames.Hand++ }, func(x *api.Sessed) { x.Sess.Frames.All[0].Page++ }, func(x *api.Sessed) { x.Sess.Pacer.Queue[0].Page++ }, func(x *api.Sessed) { x.Sess.Pacer.Fault.Code++ }, func(x *api.Sessed) { x.Sess.Pacer.Lanes[0].At++ }, func(x *api.Sessed) { x.Sess.Pacer.Store.Ticks++ },
		func(x *api.Sessed) { x.Sess.Clients = nil }, func(x *api.Sessed) { x.Sess.Clients[0].At++ }, func(x *api.Sessed) { x.Sess.Clients[0].Wait++ }, func(x *api.Sessed) { x.Sess.Clients[0].Calls = nil }, func(x *api.Sessed) { x.Sess.Clients[0].Calls[0].Kind++ }, func(x *api.Sessed) { x.Sess.Clients[0].Calls[0].Page++ }, func(x *api.Sessed) { x.Sess.Clients[0].Calls[0].Data[0]++ },
		func(x *api.Sessed) { x.Sess.Rets = nil }, func(x *api.Sessed) { x.Sess.Rets[0].Client++ }, func(x *api.Sessed) { x.Sess.Rets[0].Call++ }, func(x *api.Sessed) { x.Sess.Rets[0].Tick++ }, func(x *api.Sessed) { x.Sess.Rets[0].Code++ }, func(x *api.Sessed) { x.Sess.Rets[0].Data[0]++ }, func(x *api.Sessed) { x.Sess.Rets[0].Seal = false },
		func(x *api.Sessed) { x.Dev.Levels[0][0][0]++ }, func(x *api.Sessed) { x.Sees[0].Bytes[0]++ },
	} {
		a := first()
		b := sess.Twin(a)
		if !sess.Same(a, b) {
			t.Fatal("a twin is another one")
		}
		turn(&b)
		if sess.Same(a, b) || sess.Same(b, a) || !sess.Same(a, first()) {
			t.Error("the same, or shared:", i)
		}
	}
	if !isNone(sess.Twin(api.Sessed{})) || !isNone(api.Sessed{Sess: api.Sess{Clients: []api.Client{}, Rets: []api.Ret{}}}) {
		t.Error("none and no element aren't the same")
	}
}

// wipe turns all that a session has.
func wipe(s api.Sess) {
	for i := range s.Frames.All {
		clear(s.Frames.All[i].Data)
		clear(s.Frames.All[i].Pins)
	}
	for i := range s.Pacer.Queue {
		clear(s.Pacer.Queue[i].Data)
	}
	for i := range s.Pacer.Lanes {
		clear(s.Pacer.Lanes[i].Cells)
	}
	clear(s.Pacer.Store.Map)
	for i := range s.Clients {
		for j := range s.Clients[i].Calls {
			clear(s.Clients[i].Calls[j].Data)
		}
		clear(s.Clients[i].Calls)
	}
	for i := range s.Rets {
		clear(s.Rets[i].Data)
	}
	clear(s.Rets)
}

// TestMemory is P27.3: what is answered shares nothing with what was handed in, and no part with another one.
func TestMemory(t *testing.T) {
	c := many(2, 4)
	s := begin(t, c, 20, []api.Call{call(api.CallFetch, 1), call(api.CallRead, 1), call(api.CallWrite, 1, 7), call(api.CallFlush, 0)}, nil, nil)
	step(t, c, &s, 0)
	for range 4 {
		kept := sess.Twin(s)
		one, _ := sess.Tick(c, chacha(1), s.Sess, s.Dev)
		twin := sess.Twin(one)
		wipe(one.Sess)
		if !sess.Same(api.Sessed{Dev: one.Dev, Sees: one.Sees}, api.Sessed{Dev: twin.Dev, Sees: twin.Sees}) {
			t.Fatal("parts are shared")
		}
		two, e := sess.Tick(c, chacha(1), s.Sess, s.Dev)
		if e != api.OK || !sess.Same(two, twin) || !sess.Same(s, kept) {
			t.Fatal("memory is shared")
		}
		s = two
		kept = sess.Twin(s)
		stepped, _ := sess.Step(c, s.Sess, 0)
		if n := len(stepped.Rets); n > 0 && len(stepped.Rets[n-1].Data) > 0 {
			clear(stepped.Rets[n-1].Data)
			if at, is := frames.Find(c, stepped.Frames, 1); is && bytes.Equal(stepped.Frames.All[at].Data, []byte{0}) != bytes.Equal(s.Sess.Frames.All[at].Data, []byte{0}) {
				t.Fatal("a Ret shares its frame's data")
			}
		}
		wipe(stepped)
		if !sess.Same(s, kept) {
			t.Fatal("memory is shared")
		}
		step(t, c, &s, 0)
	}
}
