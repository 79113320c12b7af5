package frames_test

import (
	"math"
	"math/rand"
	"slices"
	"testing"

	"thimblerig/api"
	"thimblerig/frames"
)

// three is a config of three frames, two clients, and 8 pages of 2 bytes.
func three() api.Config {
	return api.Config{Pages: 8, Size: 2, Fan: 2, Slots: 2, Stash: 8, Frames: 3, Clients: 2, Queue: 4, Top: 2}
}

func free() api.Frame { return api.Frame{Pins: []int{0, 0}} }

func load(page int, pins ...int) api.Frame {
	return api.Frame{Kind: api.FrameLoad, Page: page, Pins: pins}
}

func ready(page int, data string, pins ...int) api.Frame {
	return api.Frame{Kind: api.FrameReady, Page: page, Data: []byte(data), Pins: pins}
}

func ref(x api.Frame) api.Frame   { x.Ref = true; return x }
func dirty(x api.Frame) api.Frame { x.Dirty = true; return x }

func of(hand int, all ...api.Frame) api.Frames { return api.Frames{All: all, Hand: hand} }

func isNone(f api.Frames) bool { return frames.Same(f, api.Frames{}) }

// TestNew is P25.1.
func TestNew(t *testing.T) {
	f, e := frames.New(three())
	if e != api.OK || !frames.Same(f, of(0, free(), free(), free())) || frames.Check(three(), f) != api.OK {
		t.Error(f, e)
	}
	bad := three()
	bad.Clients = 0
	if f, e := frames.New(bad); e != api.ErrBad || !isNone(f) {
		t.Error(f, e)
	}
}

// refused holds all calls' answers against ErrBad, with other arguments that may not be either.
func refused(t *testing.T, c api.Config, f api.Frames) {
	t.Helper()
	if e := frames.Check(c, f); e != api.ErrBad {
		t.Error("Check", f, e)
	}
	if at, is := frames.Find(c, f, 0); is || at != 0 {
		t.Error("Find", f, at, is)
	}
	if out, at, e := frames.Victim(c, f); e != api.ErrBad || at != 0 || !isNone(out) {
		t.Error("Victim", f, at, e)
	}
	if l := frames.Dirty(c, f); len(l) != 0 {
		t.Error("Dirty", f, l)
	}
	for i, call := range []func() (api.Frames, api.Errno){
		func() (api.Frames, api.Errno) { return frames.Load(c, f, -1, 0, 0) },
		func() (api.Frames, api.Errno) { return frames.Fill(c, f, -1, nil) },
		func() (api.Frames, api.Errno) { return frames.Pin(c, f, -1, 0) },
		func() (api.Frames, api.Errno) { return frames.Unpin(c, f, -1, 0) },
		func() (api.Frames, api.Errno) { return frames.Write(c, f, -1, nil) },
		func() (api.Frames, api.Errno) { return frames.Clean(c, f, -1) },
	} {
		if out, e := call(); e != api.ErrBad || !isNone(out) {
			t.Error("call", i, f, e)
		}
	}
}

// TestCheck is P25.1: frames that may be, and that may not; every call asks first.
func TestCheck(t *testing.T) {
	c := three()
	for _, f := range []api.Frames{
		of(2, free(), free(), free()), of(0, load(0, 1, 0), ref(load(7, 8, 8)), load(3, 0, 1)), of(1, ready(0, "ab", 0, 0), dirty(ref(ready(7, "cd", 8, 0))), dirty(ready(3, "ef", 0, 8))), of(0, ready(0, "ab", 0, 0), free(), free()),
	} {
		if e := frames.Check(c, f); e != api.OK {
			t.Error(f, e)
		}
	}
	for _, x := range []api.Frame{
		{}, {Pins: []int{0}}, {Pins: []int{0, 0, 0}}, {Pins: []int{0, 1}}, {Pins: []int{0, -1}}, {Page: 1, Pins: []int{0, 0}}, {Page: -1, Pins: []int{0, 0}}, {Data: []byte{1}, Pins: []int{0, 0}}, {Data: []byte{1, 2}, Pins: []int{0, 0}}, ref(free()), dirty(free()), {Kind: 3, Pins: []int{1, 0}}, {Kind: 255, Data: []byte{1, 2}, Pins: []int{1, 0}},
		load(0, 0, 0), load(8, 1, 0), load(-1, 1, 0), load(0, 9, 0), load(0, 1, -1), load(0, 1), load(0, 1, 0, 0), dirty(load(0, 1, 0)), {Kind: api.FrameLoad, Data: []byte{1, 2}, Pins: []int{1, 0}}, load(0, math.MaxInt, 0), load(0, 1, math.MinInt),
		ready(8, "ab", 0, 0), ready(-1, "ab", 0, 0), ready(0, "a", 0, 0), ready(0, "abc", 0, 0), ready(0, "", 0, 0), ready(0, "ab", 9, 0), ready(0, "ab", 0, -1), ready(0, "ab", 0), ready(0, "ab"), ready(0, "ab", 0, 0, 0), ready(math.MaxInt, "ab", 0, 0),
	} {
		refused(t, c, of(0, x, free(), free()))
		refused(t, c, of(0, ready(5, "ab", 1, 0), free(), x))
	}
	for _, f := range []api.Frames{
		{}, of(0), of(0, free(), free()), of(0, free(), free(), free(), free()), of(3, free(), free(), free()), of(-1, free(), free(), free()), of(math.MinInt, free(), free(), free()),
		of(0, load(2, 1, 0), load(2, 1, 0), free()), of(0, load(2, 1, 0), free(), ready(2, "ab", 0, 0)), of(0, ready(0, "ab", 0, 0), free(), ready(0, "ab", 0, 0)),
	} {
		refused(t, c, f)
	}
	bad := c
	bad.Slots = 5
	refused(t, bad, of(0, free(), free(), free()))
	refused(t, api.Config{}, api.Frames{})
}

// TestFindAndDirty is P25.1.
func TestFindAndDirty(t *testing.T) {
	c := three()
	f := of(0, dirty(ready(5, "ab", 0, 0)), free(), load(2, 1, 0))
	for page, want := range map[int]int{5: 0, 2: 2, 0: -1, 1: -1, -1: -1, 8: -1, math.MinInt: -1} {
		if at, is := frames.Find(c, f, page); is != (want >= 0) || at != max(want, 0) {
			t.Error(page, at, is)
		}
	}
	if at, is := frames.Find(c, of(0, free(), free(), ready(0, "ab", 0, 0)), 0); at != 2 || !is {
		t.Error("a free frame has no page:", at, is)
	}
	if l := frames.Dirty(c, f); !slices.Equal(l, []int{0}) {
		t.Error(l)
	}
	if l := frames.Dirty(c, of(0, dirty(ready(5, "ab", 0, 0)), ready(6, "ab", 0, 0), dirty(ready(7, "ab", 1, 0)))); !slices.Equal(l, []int{0, 2}) {
		t.Error(l)
	}
}

// TestVictim is P25.2, by the chapter's example and others.
func TestVictim(t *testing.T) {
	two := three()
	two.Frames = 2
	a, b, pinned := ready(1, "ab", 0, 0), dirty(ready(2, "cd", 0, 0)), ready(2, "cd", 0, 1)
	for i, x := range []struct {
		c    api.Config
		f    api.Frames
		want api.Frames
		at   int
		e    api.Errno
	}{
		{two, of(1, ref(a), ref(b)), of(0, a, b), 1, api.OK},
		{two, of(0, ref(a), ref(b)), of(1, a, b), 0, api.OK},
		{two, of(1, ref(a), ref(pinned)), of(1, a, ref(pinned)), 0, api.OK},
		{two, of(0, ref(a), ref(pinned)), of(1, a, ref(pinned)), 0, api.OK},
		{two, of(0, ready(1, "ab", 1, 0), pinned), api.Frames{}, 0, api.ErrNoFrame},
		{two, of(0, load(1, 1, 0), load(2, 0, 1)), api.Frames{}, 0, api.ErrNoFrame},
		{two, of(0, ref(load(1, 1, 0)), ref(pinned)), api.Frames{}, 0, api.ErrNoFrame},
		{two, of(0, a, b), of(1, a, b), 0, api.OK},
		{two, of(1, a, b), of(0, a, b), 1, api.OK},
		{two, of(0, ref(a), b), of(0, a, b), 1, api.OK},
		{two, of(0, ref(a), free()), of(0, a, free()), 1, api.OK},
		{two, of(1, ref(a), free()), of(0, ref(a), free()), 1, api.OK},
		{two, of(0, ref(load(1, 1, 0)), ref(b)), of(0, ref(load(1, 1, 0)), b), 1, api.OK},
		{three(), of(2, ref(a), free(), ref(b)), of(2, a, free(), b), 1, api.OK},
		{three(), of(2, ref(a), ref(b), ref(ready(3, "ef", 0, 0))), of(0, a, b, ready(3, "ef", 0, 0)), 2, api.OK},
	} {
		out, at, e := frames.Victim(x.c, x.f)
		if e != x.e || at != x.at || !frames.Same(out, x.want) {
			t.Error(i, out, at, e)
		}
	}
	one := three()
	one.Frames = 1
	if out, at, e := frames.Victim(one, of(0, ref(a))); e != api.OK || at != 0 || !frames.Same(out, of(0, a)) {
		t.Error(out, at, e)
	}
}

// TestLoad is P25.2.
func TestLoad(t *testing.T) {
	c := three()
	f := of(1, dirty(ref(ready(5, "ab", 0, 0))), free(), ready(6, "cd", 0, 1))
	for _, x := range []struct {
		at, page, client int
		want             api.Frame
	}{
		{0, 5, 0, ref(load(5, 1, 0))}, {0, 7, 1, ref(load(7, 0, 1))}, {1, 0, 1, ref(load(0, 0, 1))}, {0, 0, 0, ref(load(0, 1, 0))},
	} {
		want := frames.Twin(f)
		want.All[x.at] = x.want
		if out, e := frames.Load(c, f, x.at, x.page, x.client); e != api.OK || !frames.Same(out, want) {
			t.Error(x, out, e)
		}
	}
	for _, x := range [][3]int{
		{-1, 0, 0}, {3, 0, 0}, {math.MaxInt, 0, 0}, {2, 6, 0}, {2, 0, 0}, {0, 6, 0}, {1, 5, 0}, {1, 6, 1}, {1, 8, 0}, {1, -1, 0}, {1, math.MinInt, 0}, {1, 0, 2}, {1, 0, -1}, {1, 0, math.MaxInt},
	} {
		if out, e := frames.Load(c, f, x[0], x[1], x[2]); e != api.ErrArg || !isNone(out) {
			t.Error(x, out, e)
		}
	}
	if out, e := frames.Load(c, of(0, load(5, 1, 0), free(), free()), 0, 5, 0); e != api.ErrArg || !isNone(out) {
		t.Error("one that is fetched:", out, e)
	}
}

// TestTurns is P25.3: what each call turns, and what it refuses.
func TestTurns(t *testing.T) {
	c := three()
	f := of(1, dirty(ready(5, "ab", 8, 0)), load(2, 0, 8), free())
	other := of(0, ready(5, "ab", 0, 1), ref(load(2, 1, 0)), ref(ready(1, "cd", 1, 1)))
	for i, x := range []struct {
		f    api.Frames
		call func(f api.Frames) (api.Frames, api.Errno)
		at   int
		want api.Frame
		e    api.Errno
	}{
		{f, func(f api.Frames) (api.Frames, api.Errno) { return frames.Fill(c, f, 1, []byte("xy")) }, 1, ready(2, "xy", 0, 8), api.OK},
		{other, func(f api.Frames) (api.Frames, api.Errno) { return frames.Fill(c, f, 1, []byte("xy")) }, 1, ref(ready(2, "xy", 1, 0)), api.OK},
		{f, func(f api.Frames) (api.Frames, api.Errno) { return frames.Fill(c, f, 0, []byte("xy")) }, 0, api.Frame{}, api.ErrArg},
		{f, func(f api.Frames) (api.Frames, api.Errno) { return frames.Fill(c, f, 2, []byte("xy")) }, 0, api.Frame{}, api.ErrArg},
		{f, func(f api.Frames) (api.Frames, api.Errno) { return frames.Fill(c, f, 3, []byte("xy")) }, 0, api.Frame{}, api.ErrArg},
		{f, func(f api.Frames) (api.Frames, api.Errno) { return frames.Fill(c, f, 1, []byte("x")) }, 0, api.Frame{}, api.ErrArg},
		{f, func(f api.Frames) (api.Frames, api.Errno) { return frames.Fill(c, f, 1, []byte("xyz")) }, 0, api.Frame{}, api.ErrArg},
		{f, func(f api.Frames) (api.Frames, api.Errno) { return frames.Pin(c, f, 0, 1) }, 0, ref(dirty(ready(5, "ab", 8, 1))), api.OK},
		{f, func(f api.Frames) (api.Frames, api.Errno) { return frames.Pin(c, f, 1, 0) }, 1, ref(load(2, 1, 8)), api.OK},
		{f, func(f api.Frames) (api.Frames, api.Errno) { return frames.Pin(c, f, 0, 0) }, 0, api.Frame{}, api.ErrPin},
		{f, func(f api.Frames) (api.Frames, api.Errno) { return frames.Pin(c, f, 1, 1) }, 0, api.Frame{}, api.ErrPin},
		{f, func(f api.Frames) (api.Frames, api.Errno) { return frames.Pin(c, f, 2, 0) }, 0, api.Frame{}, api.ErrArg},
		{f, func(f api.Frames) (api.Frames, api.Errno) { return frames.Pin(c, f, 0, 2) }, 0, api.Frame{}, api.ErrArg},
		{f, func(f api.Frames) (api.Frames, api.Errno) { return frames.Pin(c, f, 0, -1) }, 0, api.Frame{}, api.ErrArg},
		{f, func(f api.Frames) (api.Frames, api.Errno) { return frames.Pin(c, f, 3, 0) }, 0, api.Frame{}, api.ErrArg},
		{f, func(f api.Frames) (api.Frames, api.Errno) { return frames.Unpin(c, f, 0, 0) }, 0, dirty(ready(5, "ab", 7, 0)), api.OK},
		{other, func(f api.Frames) (api.Frames, api.Errno) { return frames.Unpin(c, f, 0, 1) }, 0, ready(5, "ab", 0, 0), api.OK},
		{other, func(f api.Frames) (api.Frames, api.Errno) { return frames.Unpin(c, f, 2, 0) }, 2, ref(ready(1, "cd", 0, 1)), api.OK},
		{f, func(f api.Frames) (api.Frames, api.Errno) { return frames.Unpin(c, f, 0, 1) }, 0, api.Frame{}, api.ErrPin},
		{f, func(f api.Frames) (api.Frames, api.Errno) { return frames.Unpin(c, f, 1, 1) }, 0, api.Frame{}, api.ErrPin},
		{f, func(f api.Frames) (api.Frames, api.Errno) { return frames.Unpin(c, f, 2, 1) }, 0, api.Frame{}, api.ErrPin},
		{f, func(f api.Frames) (api.Frames, api.Errno) { return frames.Unpin(c, f, 0, 2) }, 0, api.Frame{}, api.ErrArg},
		{f, func(f api.Frames) (api.Frames, api.Errno) { return frames.Unpin(c, f, 2, -1) }, 0, api.Frame{}, api.ErrArg},
		{f, func(f api.Frames) (api.Frames, api.Errno) { return frames.Unpin(c, f, 3, 0) }, 0, api.Frame{}, api.ErrArg},
		{f, func(f api.Frames) (api.Frames, api.Errno) { return frames.Write(c, f, 0, []byte("xy")) }, 0, ref(dirty(ready(5, "xy", 8, 0))), api.OK},
		{other, func(f api.Frames) (api.Frames, api.Errno) { return frames.Write(c, f, 0, []byte("xy")) }, 0, ref(dirty(ready(5, "xy", 0, 1))), api.OK},
		{f, func(f api.Frames) (api.Frames, api.Errno) { return frames.Write(c, f, 1, []byte("xy")) }, 0, api.Frame{}, api.ErrArg},
		{f, func(f api.Frames) (api.Frames, api.Errno) { return frames.Write(c, f, 2, []byte("xy")) }, 0, api.Frame{}, api.ErrArg},
		{f, func(f api.Frames) (api.Frames, api.Errno) { return frames.Write(c, f, -1, []byte("xy")) }, 0, api.Frame{}, api.ErrArg},
		{f, func(f api.Frames) (api.Frames, api.Errno) { return frames.Write(c, f, 0, []byte("x")) }, 0, api.Frame{}, api.ErrArg},
		{f, func(f api.Frames) (api.Frames, api.Errno) { return frames.Write(c, f, 0, []byte("xyz")) }, 0, api.Frame{}, api.ErrArg},
		{f, func(f api.Frames) (api.Frames, api.Errno) { return frames.Clean(c, f, 0) }, 0, ready(5, "ab", 8, 0), api.OK},
		{other, func(f api.Frames) (api.Frames, api.Errno) { return frames.Clean(c, f, 0) }, 0, api.Frame{}, api.ErrArg},
		{f, func(f api.Frames) (api.Frames, api.Errno) { return frames.Clean(c, f, 1) }, 0, api.Frame{}, api.ErrArg},
		{f, func(f api.Frames) (api.Frames, api.Errno) { return frames.Clean(c, f, 2) }, 0, api.Frame{}, api.ErrArg},
		{f, func(f api.Frames) (api.Frames, api.Errno) { return frames.Clean(c, f, math.MaxInt) }, 0, api.Frame{}, api.ErrArg},
	} {
		kept := frames.Twin(x.f)
		want := api.Frames{}
		if x.e == api.OK {
			want = frames.Twin(x.f)
			want.All[x.at] = x.want
		}
		out, e := x.call(x.f)
		if e != x.e || !frames.Same(out, want) || !frames.Same(x.f, kept) {
			t.Error(i, out, e)
		}
		wipe(out)
		if !frames.Same(x.f, kept) {
			t.Error("memory is shared:", i)
		}
	}
}

// wipe turns all that frames have.
func wipe(f api.Frames) {
	for i := range f.All {
		clear(f.All[i].Data)
		clear(f.All[i].Pins)
		f.All[i] = api.Frame{Page: 77}
	}
}

// TestMemory is P25.1 and P25.4.
func TestMemory(t *testing.T) {
	c := three()
	first := func() api.Frames {
		return of(0, dirty(ref(ready(5, "ab", 0, 0))), ref(ready(6, "cd", 0, 1)), free())
	}
	f := first()
	data := []byte("xy")
	out, _, _ := frames.Victim(c, f)
	wipe(out)
	out, _ = frames.Load(c, f, 2, 1, 0)
	filled, _ := frames.Fill(c, out, 2, data)
	written, _ := frames.Write(c, f, 0, data)
	data[0] = 'z'
	if string(filled.All[2].Data) != "xy" || string(written.All[0].Data) != "xy" || !frames.Same(f, first()) {
		t.Error("data are shared")
	}
	for _, x := range []api.Frames{out, filled, written, frames.Twin(f)} {
		wipe(x)
	}
	if !frames.Same(f, first()) || string(data) != "zy" {
		t.Error("memory is shared")
	}
	fresh, _ := frames.New(c)
	fresh.All[0].Pins[0] = 5
	if fresh.All[1].Pins[0] != 0 {
		t.Error("new frames share pins")
	}
	loaded, _ := frames.Load(c, f, 2, 1, 0)
	loaded.All[2].Pins[1] = 7
	if !frames.Same(f, first()) {
		t.Error("pins are shared")
	}
}

// TestSameAndTwin is P25.1, of any ones.
func TestSameAndTwin(t *testing.T) {
	first := func() api.Frames {
		return of(-7, api.Frame{Kind: 99, Page: -1, Data: []byte{1}, Pins: []int{-3}, Ref: true}, api.Frame{})
	}
	for i, turn := range []func(*api.Frames){
		func(f *api.Frames) { f.Hand++ }, func(f *api.Frames) { f.All = f.All[:1] }, func(f *api.Frames) { f.All = append(f.All, api.Frame{}) }, func(f *api.Frames) { f.All[0].Kind++ }, func(f *api.Frames) { f.All[1].Page++ }, func(f *api.Frames) { f.All[0].Data[0]++ }, func(f *api.Frames) { f.All[1].Data = []byte{0} },
		func(f *api.Frames) { f.All[0].Pins[0]++ }, func(f *api.Frames) { f.All[1].Pins = []int{0} }, func(f *api.Frames) { f.All[0].Ref = false }, func(f *api.Frames) { f.All[1].Dirty = true },
	} {
		a := first()
		b := frames.Twin(a)
		if !frames.Same(a, b) {
			t.Fatal("a twin is another one")
		}
		turn(&b)
		if frames.Same(a, b) || frames.Same(b, a) || !frames.Same(a, first()) {
			t.Error("the same, or shared:", i)
		}
	}
	if !isNone(frames.Twin(api.Frames{})) || !isNone(of(0)) {
		t.Error("none and no element aren't the same")
	}
}

// TestFollows is P25.5: calls of all kinds leave frames as they may be, and the clock takes as it should.
func TestFollows(t *testing.T) {
	r := rand.New(rand.NewSource(43))
	for range 100 {
		c := three()
		c.Frames, c.Clients = 1+r.Intn(8), 1+r.Intn(4)
		f, _ := frames.New(c)
		for range 150 {
			at, client := r.Intn(c.Frames), r.Intn(c.Clients)
			out, e := f, api.OK
			switch r.Intn(8) {
			case 0, 1:
				out, e = frames.Load(c, f, at, r.Intn(8), client)
			case 2, 3:
				out, e = frames.Fill(c, f, at, []byte("ab"))
			case 4:
				out, e = frames.Pin(c, f, at, client)
			case 5:
				out, e = frames.Unpin(c, f, at, client)
			case 6:
				out, e = frames.Write(c, f, at, []byte("cd"))
			case 7:
				out, e = frames.Clean(c, f, at)
			}
			if e == api.OK {
				f = out
			}
			if frames.Check(c, f) != api.OK {
				t.Fatal("frames that may not be", f)
			}
			may, bare := 0, 0
			for _, x := range f.All {
				pinned := slices.Max(x.Pins) > 0
				if x.Kind == api.FrameNone || x.Kind == api.FrameReady && !pinned {
					may++
					if !x.Ref {
						bare++
					}
				}
			}
			out, at, e = frames.Victim(c, f)
			if (e == api.OK) != (may > 0) || e != api.OK && e != api.ErrNoFrame {
				t.Fatal(f, e)
			}
			if e != api.OK {
				continue
			}
			x := f.All[at]
			if x.Kind == api.FrameLoad || slices.Max(x.Pins) > 0 || x.Ref && bare > 0 || out.Hand != (at+1)%c.Frames || frames.Check(c, out) != api.OK {
				t.Fatal("another one is taken", f, at)
			}
			// The one that is taken is the first such from the hand on; those that were passed ahead of it have lost their Ref.
			asHand := frames.Twin(f)
			asHand.Hand = out.Hand
			for i := range c.Frames {
				p := (f.Hand + i) % c.Frames
				y := &asHand.All[p]
				mayTake := y.Kind == api.FrameNone || y.Kind == api.FrameReady && slices.Max(y.Pins) == 0
				if mayTake && (!y.Ref || bare == 0) && p != at {
					t.Fatal("an earlier one is passed", f, at, p)
				}
				if p == at && bare > 0 {
					break
				}
				if mayTake {
					y.Ref = false
				}
				if p == at {
					break
				}
			}
			if bare == 0 {
				for p := range asHand.All {
					if y := &asHand.All[p]; y.Kind == api.FrameReady && slices.Max(y.Pins) == 0 {
						y.Ref = false
					}
				}
			}
			if !frames.Same(out, asHand) {
				t.Fatal("other Refs", f, out, asHand)
			}
			if r.Intn(3) == 0 {
				f = out
			}
		}
	}
}
