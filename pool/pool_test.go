package pool_test

import (
	"math"
	"math/rand"
	"slices"
	"testing"

	"thimblerig/api"
	"thimblerig/frames"
	"thimblerig/pool"
	"thimblerig/queue"
)

// small is a config of so many frames and places of the queue, two clients, and 4 pages of 1 byte.
func small(frames, places int) api.Config {
	return api.Config{Pages: 4, Size: 1, Fan: 2, Slots: 2, Stash: 8, Frames: frames, Clients: 2, Queue: places, Top: 4}
}

func free() api.Frame { return api.Frame{Pins: []int{0, 0}} }

func load(page int, pins ...int) api.Frame {
	return api.Frame{Kind: api.FrameLoad, Page: page, Pins: pins}
}

func ready(page int, data byte, pins ...int) api.Frame {
	return api.Frame{Kind: api.FrameReady, Page: page, Data: []byte{data}, Pins: pins}
}

func ref(x api.Frame) api.Frame   { x.Ref = true; return x }
func dirty(x api.Frame) api.Frame { x.Dirty = true; return x }

func of(hand int, all ...api.Frame) api.Frames { return api.Frames{All: all, Hand: hand} }

func fetch(page, frame int) api.Unit {
	return api.Unit{Kind: api.UnitFetch, Page: page, Frame: frame}
}

func write(page, frame int, data byte) api.Unit {
	return api.Unit{Kind: api.UnitWrite, Page: page, Frame: frame, Data: []byte{data}}
}

func units(l ...api.Unit) []api.Unit { return l }

func call(kind uint8, page int, data ...byte) api.Call {
	return api.Call{Kind: kind, Page: page, Data: data}
}

func isNone(p api.Pooled) bool { return pool.Same(p, api.Pooled{}) }

// TestExample is that of the chapter.
func TestExample(t *testing.T) {
	c := small(1, 2)
	f, _ := frames.New(c)
	p, e := pool.Do(c, f, nil, 0, call(api.CallFetch, 1))
	if e != api.OK || p.Code != api.OK || p.Wait != 1 || !queue.Same(p.Queue, units(fetch(1, 0))) {
		t.Fatal(p, e)
	}
	f, e = pool.Served(c, p.Frames, api.Done{Unit: p.Queue[0], Data: []byte{7}})
	if e != api.OK {
		t.Fatal(e)
	}
	for i, x := range []struct {
		call api.Call
		want api.Pooled
	}{
		{call(api.CallRead, 1), api.Pooled{Data: []byte{7}, Frames: of(0, ref(ready(1, 7, 1, 0)))}},
		{call(api.CallWrite, 1, 9), api.Pooled{Frames: of(0, dirty(ref(ready(1, 9, 1, 0))))}},
		{call(api.CallUnpin, 1), api.Pooled{Frames: of(0, dirty(ref(ready(1, 9, 0, 0))))}},
		{call(api.CallFetch, 2), api.Pooled{Wait: 2, Queue: units(write(1, 0, 9), fetch(2, 0)), Frames: of(0, ref(load(2, 1, 0)))}},
		{call(api.CallFetch, 1), api.Pooled{Code: api.ErrNoFrame, Queue: units(write(1, 0, 9), fetch(2, 0)), Frames: of(0, ref(load(2, 1, 0)))}},
		{call(api.CallRead, 1), api.Pooled{Code: api.ErrPin, Queue: units(write(1, 0, 9), fetch(2, 0)), Frames: of(0, ref(load(2, 1, 0)))}},
		{call(api.CallRead, 4), api.Pooled{Code: api.ErrPage, Queue: units(write(1, 0, 9), fetch(2, 0)), Frames: of(0, ref(load(2, 1, 0)))}},
	} {
		p, e = pool.Do(c, f, p.Queue, 0, x.call)
		if i == 0 {
			p, e = pool.Do(c, f, nil, 0, x.call)
		}
		if e != api.OK || !pool.Same(p, x.want) {
			t.Fatal(i, p, e)
		}
		f = p.Frames
	}
}

// TestCheck is P26.1: frames and queues that go together, and that don't; Do asks first.
func TestCheck(t *testing.T) {
	c := small(2, 4)
	odd := c
	odd.Pages = 65
	for i, x := range []struct {
		c api.Config
		f api.Frames
		q []api.Unit
		e api.Errno
	}{
		{c, of(0, free(), free()), nil, api.OK},
		{c, of(1, load(3, 1, 0), free()), units(fetch(3, 0)), api.OK},
		{c, of(1, load(3, 1, 0), load(0, 0, 1)), units(fetch(0, 1), fetch(3, 0)), api.OK},
		{c, of(1, load(3, 1, 0), free()), units(write(3, 0, 1), write(3, 1, 1), fetch(3, 0), write(2, 0, 2)), api.OK},
		{c, of(0, free(), ready(1, 1, 0, 0)), units(write(1, 1, 1), write(1, 0, 1), write(3, 1, 1)), api.OK},
		{odd, of(0, free(), free()), nil, api.ErrBad},
		{c, of(0, free()), nil, api.ErrBad},
		{c, of(0, free(), free()), units(api.Unit{}), api.ErrBad},
		{c, of(0, free(), free()), units(write(1, 1, 1), write(1, 1, 1), write(1, 1, 1), write(1, 1, 1), write(1, 1, 1)), api.ErrBad},
		{c, of(0, free(), free()), units(fetch(0, 0)), api.ErrBad},
		{c, of(0, ready(3, 1, 1, 0), free()), units(fetch(3, 0)), api.ErrBad},
		{c, of(0, load(3, 1, 0), free()), nil, api.ErrBad},
		{c, of(0, load(3, 1, 0), free()), units(write(3, 0, 1)), api.ErrBad},
		{c, of(0, load(3, 1, 0), free()), units(fetch(2, 0)), api.ErrBad},
		{c, of(0, load(3, 1, 0), free()), units(fetch(3, 1)), api.ErrBad},
		{c, of(0, load(3, 1, 0), free()), units(fetch(3, 0), fetch(3, 0)), api.ErrBad},
		{c, of(0, load(3, 1, 0), free()), units(fetch(3, 0), fetch(3, 1)), api.ErrBad},
		{c, of(0, load(3, 1, 0), free()), units(fetch(3, 0), write(3, 0, 1)), api.ErrBad},
		{c, of(0, load(3, 1, 0), free()), units(fetch(3, 0), write(3, 1, 1)), api.ErrBad},
		{c, of(0, load(3, 1, 0), free()), units(fetch(3, 0), write(1, 1, 1), write(3, 1, 1)), api.ErrBad},
		{c, of(0, load(3, 1, 0), load(0, 1, 0)), units(fetch(3, 0)), api.ErrBad},
		{c, of(0, load(3, 1, 0), load(0, 1, 0)), units(fetch(3, 1), fetch(0, 0)), api.ErrBad},
		{c, of(0, load(3, 1, 0), ready(0, 1, 0, 0)), units(fetch(3, 0), fetch(0, 1)), api.ErrBad},
	} {
		if e := pool.Check(x.c, x.f, x.q); e != x.e {
			t.Error("Check", i, e)
		}
		if x.e == api.OK {
			continue
		}
		if p, e := pool.Do(x.c, x.f, x.q, 9, api.Call{}); e != x.e || !isNone(p) {
			t.Error("Do", i, e)
		}
	}
}

// TestAsks is P26.1 and P26.2: calls that may be, and that may not; then the client.
func TestAsks(t *testing.T) {
	c := small(2, 4)
	odd := c
	odd.Size = 0
	f, _ := frames.New(c)
	for kind := range 256 {
		for size := range 3 {
			x := api.Call{Kind: uint8(kind), Page: -99, Data: make([]byte, size)}
			want := api.ErrArg
			if kind >= 1 && kind <= 6 && (kind == 3) == (size == 1) && size < 2 {
				want = api.OK
			}
			if e := pool.Asks(c, x); e != want {
				t.Error(kind, size, e)
			}
			if e := pool.Asks(odd, x); e != api.ErrBad {
				t.Error(kind, size, e)
			}
			p, e := pool.Do(c, f, nil, 1, x)
			if e != want || isNone(p) != (e != api.OK) {
				t.Error(kind, size, e)
			}
		}
	}
	for _, client := range []int{-1, 2, math.MinInt, math.MaxInt} {
		if p, e := pool.Do(c, f, nil, client, call(api.CallFlush, 0)); e != api.ErrArg || !isNone(p) {
			t.Error(client, e)
		}
	}
}

// TestDo is P26.2: what comes of each call.
func TestDo(t *testing.T) {
	held := of(0, dirty(ready(1, 5, 1, 0)), ref(load(2, 0, 8)))
	heldQueue := units(write(3, 0, 8), fetch(2, 1), write(3, 1, 9))
	bare := of(1, ref(ready(1, 5, 0, 0)), dirty(ready(2, 6, 0, 0)))
	for i, x := range []struct {
		c      api.Config
		f      api.Frames
		q      []api.Unit
		client int
		call   api.Call
		want   api.Pooled
	}{
		// Fetches of pages that have frames.
		{small(2, 4), held, heldQueue, 1, call(api.CallFetch, 1), api.Pooled{Frames: of(0, ref(dirty(ready(1, 5, 1, 1))), ref(load(2, 0, 8))), Queue: heldQueue}},
		{small(2, 4), held, heldQueue, 0, call(api.CallFetch, 2), api.Pooled{Frames: of(0, dirty(ready(1, 5, 1, 0)), ref(load(2, 1, 8))), Queue: heldQueue, Wait: 2}},
		{small(2, 4), held, heldQueue, 1, call(api.CallFetch, 2), api.Pooled{Frames: held, Queue: heldQueue, Code: api.ErrPin}},
		{small(2, 4), of(0, ready(1, 5, 8, 0), free()), nil, 0, call(api.CallFetch, 1), api.Pooled{Frames: of(0, ready(1, 5, 8, 0), free()), Code: api.ErrPin}},
		// Fetches of pages that have none.
		{small(2, 4), held, heldQueue, 0, call(api.CallFetch, 0), api.Pooled{Frames: held, Queue: heldQueue, Code: api.ErrNoFrame}},
		{small(2, 4), bare, nil, 1, call(api.CallFetch, 0), api.Pooled{Frames: of(0, ref(ready(1, 5, 0, 0)), ref(load(0, 0, 1))), Queue: units(write(2, 1, 6), fetch(0, 1)), Wait: 2}},
		{small(2, 4), bare, units(write(3, 0, 8), write(3, 0, 9)), 1, call(api.CallFetch, 0), api.Pooled{Frames: of(0, ref(ready(1, 5, 0, 0)), ref(load(0, 0, 1))), Queue: units(write(3, 0, 8), write(3, 0, 9), write(2, 1, 6), fetch(0, 1)), Wait: 4}},
		{small(2, 3), bare, units(write(3, 0, 8), write(3, 0, 9)), 1, call(api.CallFetch, 0), api.Pooled{Frames: bare, Queue: units(write(3, 0, 8), write(3, 0, 9)), Code: api.ErrBusy}},
		{small(2, 1), bare, nil, 1, call(api.CallFetch, 0), api.Pooled{Frames: bare, Code: api.ErrBusy}},
		{small(2, 4), of(0, ref(ready(1, 5, 0, 0)), ready(2, 6, 0, 0)), nil, 0, call(api.CallFetch, 3), api.Pooled{Frames: of(0, ready(1, 5, 0, 0), ref(load(3, 1, 0))), Queue: units(fetch(3, 1)), Wait: 1}},
		{small(2, 4), of(0, free(), ready(2, 6, 0, 0)), units(write(3, 1, 9)), 0, call(api.CallFetch, 3), api.Pooled{Frames: of(1, ref(load(3, 1, 0)), ready(2, 6, 0, 0)), Queue: units(write(3, 1, 9), fetch(3, 0)), Wait: 2}},
		{small(2, 1), of(0, ref(ready(1, 5, 0, 0)), ref(dirty(ready(2, 6, 0, 0)))), units(write(3, 0, 8)), 1, call(api.CallFetch, 0), api.Pooled{Frames: of(0, ref(ready(1, 5, 0, 0)), ref(dirty(ready(2, 6, 0, 0)))), Queue: units(write(3, 0, 8)), Code: api.ErrBusy}},
		// Pages that there aren't.
		{small(2, 4), held, heldQueue, 0, call(api.CallFetch, 4), api.Pooled{Frames: held, Queue: heldQueue, Code: api.ErrPage}},
		{small(2, 4), held, heldQueue, 0, call(api.CallFetch, -1), api.Pooled{Frames: held, Queue: heldQueue, Code: api.ErrPage}},
		{small(2, 4), held, heldQueue, 0, call(api.CallRead, math.MinInt), api.Pooled{Frames: held, Queue: heldQueue, Code: api.ErrPage}},
		{small(2, 4), held, heldQueue, 0, call(api.CallWrite, 4, 1), api.Pooled{Frames: held, Queue: heldQueue, Code: api.ErrPage}},
		{small(2, 4), held, heldQueue, 0, call(api.CallUnpin, math.MaxInt), api.Pooled{Frames: held, Queue: heldQueue, Code: api.ErrPage}},
		// Reads, writes and unpins.
		{small(2, 4), held, heldQueue, 0, call(api.CallRead, 1), api.Pooled{Frames: held, Queue: heldQueue, Data: []byte{5}}},
		{small(2, 4), held, heldQueue, 1, call(api.CallRead, 1), api.Pooled{Frames: held, Queue: heldQueue, Code: api.ErrPin}},
		{small(2, 4), held, heldQueue, 1, call(api.CallRead, 2), api.Pooled{Frames: held, Queue: heldQueue, Code: api.ErrPin}},
		{small(2, 4), held, heldQueue, 1, call(api.CallRead, 0), api.Pooled{Frames: held, Queue: heldQueue, Code: api.ErrPin}},
		{small(2, 4), held, heldQueue, 0, call(api.CallWrite, 1, 99), api.Pooled{Frames: of(0, ref(dirty(ready(1, 99, 1, 0))), ref(load(2, 0, 8))), Queue: heldQueue}},
		{small(2, 4), held, heldQueue, 1, call(api.CallWrite, 1, 99), api.Pooled{Frames: held, Queue: heldQueue, Code: api.ErrPin}},
		{small(2, 4), held, heldQueue, 1, call(api.CallWrite, 2, 99), api.Pooled{Frames: held, Queue: heldQueue, Code: api.ErrPin}},
		{small(2, 4), held, heldQueue, 0, call(api.CallUnpin, 1), api.Pooled{Frames: of(0, dirty(ready(1, 5, 0, 0)), ref(load(2, 0, 8))), Queue: heldQueue}},
		{small(2, 4), held, heldQueue, 1, call(api.CallUnpin, 1), api.Pooled{Frames: held, Queue: heldQueue, Code: api.ErrPin}},
		{small(2, 4), held, heldQueue, 1, call(api.CallUnpin, 2), api.Pooled{Frames: held, Queue: heldQueue, Code: api.ErrPin}},
		{small(2, 4), held, heldQueue, 1, call(api.CallUnpin, 3), api.Pooled{Frames: held, Queue: heldQueue, Code: api.ErrPin}},
		// Flushes.
		{small(2, 4), held, heldQueue, 1, call(api.CallFlush, -7), api.Pooled{Frames: of(0, ready(1, 5, 1, 0), ref(load(2, 0, 8))), Queue: append(slices.Clone(heldQueue), write(1, 0, 5)), Wait: 4}},
		{small(2, 3), held, heldQueue, 1, call(api.CallFlush, 0), api.Pooled{Frames: held, Queue: heldQueue, Code: api.ErrBusy}},
		{small(2, 4), of(0, dirty(ready(1, 5, 0, 0)), ref(dirty(ready(0, 6, 1, 0)))), nil, 1, call(api.CallFlush, 0), api.Pooled{Frames: of(0, ready(1, 5, 0, 0), ref(ready(0, 6, 1, 0))), Queue: units(write(1, 0, 5), write(0, 1, 6)), Wait: 2}},
		{small(2, 1), of(0, dirty(ready(1, 5, 0, 0)), dirty(ready(0, 6, 1, 0))), nil, 1, call(api.CallFlush, 0), api.Pooled{Frames: of(0, dirty(ready(1, 5, 0, 0)), dirty(ready(0, 6, 1, 0))), Code: api.ErrBusy}},
		{small(2, 4), of(0, ready(1, 5, 0, 0), free()), nil, 1, call(api.CallFlush, 0), api.Pooled{Frames: of(0, ready(1, 5, 0, 0), free())}},
		{small(2, 4), of(0, ready(1, 5, 0, 0), free()), units(write(3, 0, 8)), 1, call(api.CallFlush, 0), api.Pooled{Frames: of(0, ready(1, 5, 0, 0), free()), Queue: units(write(3, 0, 8)), Wait: 1}},
		// Seals.
		{small(2, 4), of(0, ref(ready(1, 5, 0, 0)), free()), nil, 1, call(api.CallSeal, 77), api.Pooled{Frames: of(0, ref(ready(1, 5, 0, 0)), free()), Seal: true}},
		{small(2, 4), of(0, ready(1, 5, 0, 1), free()), nil, 0, call(api.CallSeal, 0), api.Pooled{Frames: of(0, ready(1, 5, 0, 1), free()), Code: api.ErrPin}},
		{small(2, 4), held, heldQueue, 0, call(api.CallSeal, 0), api.Pooled{Frames: held, Queue: heldQueue, Code: api.ErrPin}},
		{small(2, 4), of(0, free(), dirty(ready(1, 5, 0, 0))), nil, 0, call(api.CallSeal, 0), api.Pooled{Frames: of(0, free(), dirty(ready(1, 5, 0, 0))), Code: api.ErrBusy}},
		{small(2, 4), of(0, ready(1, 5, 0, 0), free()), units(write(3, 0, 8)), 0, call(api.CallSeal, 0), api.Pooled{Frames: of(0, ready(1, 5, 0, 0), free()), Queue: units(write(3, 0, 8)), Code: api.ErrBusy}},
	} {
		keptFrames, keptQueue := frames.Twin(x.f), queue.Twin(x.q)
		p, e := pool.Do(x.c, x.f, x.q, x.client, x.call)
		if e != api.OK || !pool.Same(p, x.want) {
			t.Error(i, p, e)
		}
		if p.Code == api.OK && pool.Check(x.c, p.Frames, p.Queue) != api.OK {
			t.Error(i, "doesn't go together any more")
		}
		for j := range p.Frames.All {
			clear(p.Frames.All[j].Data)
			clear(p.Frames.All[j].Pins)
		}
		for j := range p.Queue {
			if j < len(x.want.Queue) && string(p.Queue[j].Data) != string(x.want.Queue[j].Data) {
				t.Error(i, "a unit shares its frame's data")
			}
			clear(p.Queue[j].Data)
		}
		if string(p.Data) != string(x.want.Data) {
			t.Error(i, "data are shared")
		}
		clear(p.Data)
		if !frames.Same(x.f, keptFrames) || !queue.Same(x.q, keptQueue) {
			t.Fatal(i, "memory is shared")
		}
	}
}

// TestServed is P26.3.
func TestServed(t *testing.T) {
	c := small(2, 4)
	f := of(1, load(3, 1, 0), dirty(ready(1, 5, 0, 1)))
	odd := c
	odd.Top = 0
	for i, x := range []struct {
		c    api.Config
		f    api.Frames
		d    api.Done
		want api.Frames
		e    api.Errno
	}{
		{c, f, api.Done{Unit: fetch(3, 0), Data: []byte{9}}, of(1, ready(3, 9, 1, 0), dirty(ready(1, 5, 0, 1))), api.OK},
		{c, f, api.Done{Unit: write(3, 0, 1), Data: []byte{9}}, f, api.OK},
		{c, f, api.Done{Unit: write(0, 1, 1)}, f, api.OK},
		{odd, f, api.Done{}, api.Frames{}, api.ErrBad},
		{c, of(0), api.Done{}, api.Frames{}, api.ErrBad},
		{c, f, api.Done{}, api.Frames{}, api.ErrArg},
		{c, f, api.Done{Unit: api.Unit{Kind: 3}}, api.Frames{}, api.ErrArg},
		{c, f, api.Done{Unit: fetch(3, 2), Data: []byte{9}}, api.Frames{}, api.ErrArg},
		{c, f, api.Done{Unit: fetch(3, -1), Data: []byte{9}}, api.Frames{}, api.ErrArg},
		{c, f, api.Done{Unit: write(4, 0, 1)}, api.Frames{}, api.ErrArg},
		{c, f, api.Done{Unit: fetch(3, 1), Data: []byte{9}}, api.Frames{}, api.ErrArg},
		{c, f, api.Done{Unit: fetch(1, 1), Data: []byte{9}}, api.Frames{}, api.ErrArg},
		{c, f, api.Done{Unit: fetch(2, 0), Data: []byte{9}}, api.Frames{}, api.ErrArg},
		{c, f, api.Done{Unit: fetch(3, 0)}, api.Frames{}, api.ErrArg},
		{c, f, api.Done{Unit: fetch(3, 0), Data: []byte{9, 9}}, api.Frames{}, api.ErrArg},
		{c, of(0, free(), free()), api.Done{Unit: fetch(0, 0), Data: []byte{9}}, api.Frames{}, api.ErrArg},
	} {
		kept := frames.Twin(x.f)
		out, e := pool.Served(x.c, x.f, x.d)
		if e != x.e || !frames.Same(out, x.want) {
			t.Error(i, out, e)
		}
		out = frames.Twin(out)
		again, _ := pool.Served(x.c, x.f, x.d)
		for j := range again.All {
			clear(again.All[j].Data)
			clear(again.All[j].Pins)
		}
		if !frames.Same(x.f, kept) || len(x.d.Data) > 0 && x.d.Data[0] != 9 {
			t.Fatal(i, "memory is shared")
		}
	}
}

// TestSameAndTwin is P26.1, of any ones.
func TestSameAndTwin(t *testing.T) {
	first := func() api.Pooled {
		return api.Pooled{Frames: of(-3, api.Frame{Kind: 9, Data: []byte{1}, Pins: []int{-1}}), Queue: units(api.Unit{Kind: 8, Data: []byte{2}}), Code: 77, Data: []byte{3}, Wait: -5, Seal: true}
	}
	for i, turn := range []func(*api.Pooled){
		func(p *api.Pooled) { p.Frames.Hand++ }, func(p *api.Pooled) { p.Frames.All[0].Data[0]++ }, func(p *api.Pooled) { p.Frames.All[0].Pins[0]++ }, func(p *api.Pooled) { p.Queue[0].Data[0]++ }, func(p *api.Pooled) { p.Queue = nil }, func(p *api.Pooled) { p.Code++ }, func(p *api.Pooled) { p.Data[0]++ }, func(p *api.Pooled) { p.Data = nil }, func(p *api.Pooled) { p.Wait++ }, func(p *api.Pooled) { p.Seal = false },
	} {
		a := first()
		b := pool.Twin(a)
		if !pool.Same(a, b) {
			t.Fatal("a twin is another one")
		}
		turn(&b)
		if pool.Same(a, b) || pool.Same(b, a) || !pool.Same(a, first()) {
			t.Error("the same, or shared:", i)
		}
	}
	if !isNone(pool.Twin(api.Pooled{})) || !isNone(api.Pooled{Queue: units(), Data: []byte{}}) {
		t.Error("none and no element aren't the same")
	}
}

// TestFollows is P26.5, with a store that is a plain map: each page's content is turned by writes alone, and read as it is.
func TestFollows(t *testing.T) {
	r := rand.New(rand.NewSource(44))
	for range 100 {
		c := small(1+r.Intn(4), 1+r.Intn(5))
		f, _ := frames.New(c)
		var q []api.Unit
		store, want := [4]byte{}, [4]byte{}
		content := func(page int) byte {
			if at, is := frames.Find(c, f, page); is && f.All[at].Kind == api.FrameReady {
				return f.All[at].Data[0]
			}
			for _, u := range slices.Backward(q) {
				if u.Kind == api.UnitWrite && u.Page == page {
					return u.Data[0]
				}
			}
			return store[page]
		}
		for range 150 {
			if r.Intn(3) == 0 && len(q) > 0 {
				out, u, _ := queue.Take(c, q)
				had := store[u.Page]
				if u.Kind == api.UnitWrite {
					store[u.Page] = u.Data[0]
				}
				served, e := pool.Served(c, f, api.Done{Unit: u, Data: []byte{had}})
				if e != api.OK {
					t.Fatal(u, e)
				}
				f, q = served, out
			} else {
				x := call(uint8(1+r.Intn(6)), r.Intn(4))
				if x.Kind == api.CallWrite {
					x.Data = []byte{byte(r.Int())}
				}
				p, e := pool.Do(c, f, q, r.Intn(2), x)
				if e != api.OK {
					t.Fatal(x, e)
				}
				if p.Code != api.OK && (!frames.Same(p.Frames, f) || !queue.Same(p.Queue, q) || p.Wait != 0 || p.Seal || len(p.Data) != 0) {
					t.Fatal("a refused call turns something", p)
				}
				if p.Code == api.OK && x.Kind == api.CallWrite {
					want[x.Page] = x.Data[0]
				}
				if p.Code == api.OK && x.Kind == api.CallRead && p.Data[0] != want[x.Page] {
					t.Fatal("a read tells otherwise", x, p.Data, want)
				}
				f, q = p.Frames, p.Queue
			}
			if pool.Check(c, f, q) != api.OK {
				t.Fatal("doesn't go together", f, q)
			}
			for page := range 4 {
				if content(page) != want[page] {
					t.Fatal("another content", page, content(page), want)
				}
			}
		}
	}
}
