package run_test

import (
	"bytes"
	"encoding/binary"
	"math"
	"math/rand"
	"slices"
	"testing"

	"thimblerig/api"
	"thimblerig/canon"
	"thimblerig/conf"
	"thimblerig/frames"
	"thimblerig/harm"
	"thimblerig/lane"
	"thimblerig/order"
	"thimblerig/run"
	"thimblerig/sess"
	"thimblerig/token"
)

// two is the config of chapter 18's examples.
func two() api.Config {
	return api.Config{Pages: 2, Size: 1, Fan: 2, Slots: 1, Stash: 2, Frames: 1, Clients: 1, Queue: 1, Top: 2}
}

// many is a config of two levels, three clients and 6 pages of 1 byte.
func many(framesOf, places int) api.Config {
	return api.Config{Pages: 6, Size: 1, Fan: 2, Slots: 2, Stash: 20, Frames: framesOf, Clients: 3, Queue: places, Top: 4}
}

func chacha(first byte) api.Source {
	return api.Source{Kind: api.FromChacha, Key: api.Key{first}}
}

func call(kind uint8, page int, data ...byte) api.Call {
	return api.Call{Kind: kind, Page: page, Data: data}
}

func pick(n int) api.Step { return api.Step{Kind: api.StepPick, N: n} }
func open(n int) api.Step { return api.Step{Kind: api.StepOpen, N: n} }
func tick() api.Step      { return api.Step{Kind: api.StepTick} }

func isNone(w api.World) bool { return run.Same(w, api.World{}) }

// lanesOf are lanes of so many cells of all kinds.
func lanesOf(r *rand.Rand, c api.Config, many int) []api.Lane {
	levels, _ := conf.Levels(c)
	var out []api.Lane
	for range levels {
		var l api.Lane
		for range many {
			l.Cells = append(l.Cells, r.Uint32())
		}
		out = append(out, l)
	}
	return out
}

// callsOf are calls of all kinds.
func callsOf(r *rand.Rand, c api.Config, many int) [][]api.Call {
	out := make([][]api.Call, c.Clients)
	for client := range out {
		for range many {
			x := call([]uint8{1, 1, 1, 2, 2, 3, 3, 3, 4, 4, 4, 5, 6, 6}[r.Intn(14)], r.Intn(c.Pages))
			if x.Kind == api.CallWrite {
				x.Data = []byte{byte(r.Int())}
			}
			out[client] = append(out[client], x)
		}
	}
	return out
}

// harmOf is a harm of any kind.
func harmOf(r *rand.Rand) api.Harm {
	return api.Harm{Kind: uint8(1 + r.Intn(5)), Level: r.Intn(2), A: 1 + r.Intn(4), B: 1 + r.Intn(4), At: r.Intn(60), Mask: uint8(r.Intn(3))}
}

// scriptOf is a script of picks and ticks, and, if it may be harmed, of all else.
func scriptOf(r *rand.Rand, c api.Config, steps, cells int, harmed bool) api.Script {
	s := api.Script{Config: c, Source: chacha(byte(r.Int())), Key: api.Key{byte(r.Int())}, Lanes: lanesOf(r, c, cells), Calls: callsOf(r, c, 60)}
	for range steps {
		x := pick(r.Intn(c.Clients))
		switch n := r.Intn(40); {
		case n < 14:
			x = tick()
		case n == 39 && harmed:
			x = api.Step{Kind: api.StepHarm, Harm: harmOf(r)}
		case n >= 37 && harmed:
			x = open(r.Intn(2))
		}
		s.Steps = append(s.Steps, x)
	}
	return s
}

// example is the script of the chapter's example, with more steps.
func example(more ...api.Step) api.Script {
	steps := append([]api.Step{pick(0), tick(), pick(0), pick(0), pick(0), tick(), pick(0)}, more...)
	calls := []api.Call{call(api.CallFetch, 0), call(api.CallWrite, 0, 5), call(api.CallUnpin, 0), call(api.CallFlush, 0), call(api.CallSeal, 0)}
	return api.Script{Config: two(), Source: chacha(1), Lanes: []api.Lane{{Cells: make([]uint32, 6)}}, Calls: [][]api.Call{calls}, Steps: steps}
}

// TestExample is that of the chapter, as far as its token.
func TestExample(t *testing.T) {
	w, e := run.Run(example())
	want := []api.Ret{{Tick: 1}, {Call: 1, Tick: 1}, {Call: 2, Tick: 1}, {Call: 3, Tick: 2}, {Call: 4, Tick: 2, Seal: true}}
	if e != api.OK || len(w.Tokens) != 1 || len(w.Tokens[0]) != 90 || len(w.Trace) != 3+16 || len(w.Opens) != 0 {
		t.Fatal(len(w.Tokens), w.Sess.Rets, e)
	}
	if !run.Same(api.World{Sess: api.Sess{Rets: w.Sess.Rets}}, api.World{Sess: api.Sess{Rets: want}}) {
		t.Fatal(w.Sess.Rets)
	}
}

// TestOpen is P29.1: a token, opened with nothing changed, and behind another tick.
func TestOpen(t *testing.T) {
	s := example()
	w, _ := run.Run(s)
	if len(w.Tokens) != 1 || len(w.Sess.Rets) != 5 {
		t.Fatal(len(w.Tokens), w.Sess.Rets)
	}
	want, _ := token.Seal(two(), s.Key, w.Sess.Pacer.Store)
	if !bytes.Equal(w.Tokens[0], want) {
		t.Fatal("another token")
	}
	opened, is := run.Do(s, w, open(0))
	if !is || !slices.Equal(opened.Opens, []api.Opening{{Token: 0, Rets: 5, Code: api.OK}}) || opened.Sess.Pacer.Fault.Code != api.OK || len(opened.Trace) != len(w.Trace)+3 {
		t.Fatal(opened.Opens, is)
	}
	if !sameStore(opened.Sess.Pacer.Store, w.Sess.Pacer.Store) {
		t.Fatal("another store")
	}
	ticked, _ := run.Do(s, w, tick())
	opened, is = run.Do(s, ticked, open(0))
	if !is || !slices.Equal(opened.Opens, []api.Opening{{Token: 0, Rets: 5, Code: api.ErrIntegrity}}) || opened.Sess.Pacer.Fault.Code != api.ErrIntegrity || opened.Sess.Pacer.Store.Ticks != 3 || opened.Sess.Pacer.Store.Next != ticked.Sess.Pacer.Store.Next {
		t.Fatal(opened.Opens, is)
	}
	for _, n := range []int{-1, 1, 2, math.MinInt, math.MaxInt} {
		if out, is := run.Do(s, w, open(n)); is || !run.Same(out, w) {
			t.Error("there is no such token", n)
		}
	}
	for rets, want := range map[int]bool{254: true, 255: true, 256: false} {
		full := run.Twin(w)
		full.Sess.Rets = make([]api.Ret, rets)
		if out, is := run.Do(s, full, open(0)); is != want || !is && !run.Same(out, full) {
			t.Error(rets, is)
		}
	}
}

func sameStore(a, b api.Store) bool {
	return run.Same(api.World{Sess: api.Sess{Pacer: api.Pacer{Store: a}}}, api.World{Sess: api.Sess{Pacer: api.Pacer{Store: b}}})
}

// TestOpenEndsWaits is P29.1: calls that wait end by ErrNone, in their clients' order; frames are free, the queue is empty, a fault is gone.
func TestOpenEndsWaits(t *testing.T) {
	r := rand.New(rand.NewSource(51))
	c := many(3, 4)
	calls := [][]api.Call{{call(api.CallSeal, 0), call(api.CallFetch, 1)}, nil, {call(api.CallFetch, 2)}}
	s := api.Script{Config: c, Source: chacha(3), Lanes: lanesOf(r, c, 9), Calls: calls, Steps: []api.Step{pick(0), pick(2), pick(0)}}
	w, e := run.Run(s)
	if e != api.OK || len(w.Tokens) != 1 || w.Sess.Clients[0].Wait != 2 || w.Sess.Clients[2].Wait != 1 {
		t.Fatal(w.Sess.Clients, e)
	}
	got, is := run.Do(s, w, open(0))
	want := run.Twin(w)
	f, _ := frames.New(c)
	opened, _ := token.Open(c, s.Key, s.Source, w.Tokens[0], w.Dev, w.Sess.Pacer.Store.Next, 0)
	want.Sess.Frames, want.Sess.Pacer.Queue = f, nil
	want.Trace = append(want.Trace, opened.Sees...)
	want.Sess.Rets = append(want.Sess.Rets, api.Ret{Client: 0, Call: 1, Code: api.ErrNone}, api.Ret{Client: 2, Code: api.ErrNone})
	want.Sess.Clients[0].At, want.Sess.Clients[0].Wait = 2, 0
	want.Sess.Clients[2].At, want.Sess.Clients[2].Wait = 1, 0
	want.Opens = []api.Opening{{Token: 0, Rets: 1}}
	if !is || !run.Same(got, want) {
		t.Fatal(got.Sess.Rets, got.Opens)
	}
	// A tick that goes wrong, and then the token of what was there before it.
	broken := run.Twin(w)
	broken.Sess.Pacer.Lanes[0].At = 9
	broken, is = run.Do(s, broken, tick())
	if !is || broken.Sess.Pacer.Fault.Code != api.ErrEntropy {
		t.Fatal(broken.Sess.Pacer.Fault)
	}
	mended, is := run.Do(s, broken, open(0))
	if !is || mended.Sess.Pacer.Fault.Code != api.OK || mended.Sess.Pacer.Store.Ticks != 1 || mended.Sess.Pacer.Lanes[0].At != 9 || !slices.Equal(mended.Opens, []api.Opening{{Rets: 3}}) {
		t.Fatal(mended.Sess.Pacer.Fault, mended.Opens)
	}
}

// TestBeginAndRun is P29.1: what is refused, and how many steps there may be.
func TestBeginAndRun(t *testing.T) {
	s := example()
	begun, _ := sess.New(s.Config, s.Source, s.Lanes, s.Calls, 0, 0)
	w, e := run.Begin(s)
	if e != api.OK || !run.Same(w, api.World{Sess: begun.Sess, Dev: begun.Dev, Trace: begun.Sees}) {
		t.Fatal(e)
	}
	for want, turn := range map[api.Errno]func(s *api.Script){
		api.ErrBad:     func(s *api.Script) { s.Config.Top = 0; s.Lanes = nil },
		api.ErrArg:     func(s *api.Script) { s.Calls = nil },
		api.ErrMany:    func(s *api.Script) { s.Source = api.Source{Kind: api.FromPad, Width: 72}; s.Lanes = nil },
		api.ErrEntropy: func(s *api.Script) { s.Source = api.Source{Kind: api.FromPad, Width: 73}; s.Lanes = nil },
	} {
		s := example(make([]api.Step, 600)...)
		turn(&s)
		if w, e := run.Begin(s); e != want || !isNone(w) {
			t.Error(want, e)
		}
		if w, e := run.Run(s); e != want || !isNone(w) {
			t.Error(want, e)
		}
	}
	for steps, want := range map[int]api.Errno{0: api.OK, 512: api.OK, 513: api.ErrMany} {
		s := example()
		s.Steps = slices.Repeat([]api.Step{pick(-1)}, steps)
		got, e := run.Run(s)
		if e != want || e == api.OK && !run.Same(got, w) || e != api.OK && !isNone(got) {
			t.Error(steps, e)
		}
	}
}

// TestCant is P29.1: steps that can't be do nothing.
func TestCant(t *testing.T) {
	s := example()
	w, _ := run.Run(s)
	full := run.Twin(w)
	full.Sess.Rets = make([]api.Ret, 256)
	for i, x := range []struct {
		w api.World
		x api.Step
	}{
		{w, api.Step{}}, {w, api.Step{Kind: 5}}, {w, api.Step{Kind: 255, Harm: api.Harm{Kind: api.HarmCrash}}}, {w, pick(1)}, {w, pick(-1)}, {w, pick(math.MaxInt)}, {full, pick(0)}, {full, tick()},
		{w, api.Step{Kind: api.StepHarm}}, {w, api.Step{Kind: api.StepHarm, Harm: api.Harm{Kind: api.HarmFlip, A: 1}}}, {w, api.Step{Kind: api.StepHarm, Harm: api.Harm{Kind: api.HarmCrash, At: 999}}}, {w, api.Step{Kind: api.StepHarm, Harm: api.Harm{Kind: api.HarmSwap, A: 1, B: 4}}},
	} {
		if out, is := run.Do(s, x.w, x.x); is || !run.Same(out, x.w) {
			t.Error(i, is)
		}
	}
	// No world of steps: nothing is promised, but that the call ends.
	for _, x := range []api.Step{pick(0), tick(), open(0), {Kind: api.StepHarm, Harm: api.Harm{Kind: api.HarmCrash}}} {
		if out, is := run.Do(api.Script{}, api.World{Tokens: [][]byte{{1}}}, x); is || !run.Same(out, api.World{Tokens: [][]byte{{1}}}) {
			t.Error(x, is)
		}
	}
}

// plain is a world behind a step, as the chapter says, by sess, harm and token.
func plain(s api.Script, was api.World, x api.Step) (api.World, bool) {
	w := run.Twin(was)
	switch x.Kind {
	case api.StepPick:
		out, e := sess.Step(s.Config, w.Sess, x.N)
		if e != api.OK {
			return w, false
		}
		if len(out.Rets) > len(w.Sess.Rets) && out.Rets[len(out.Rets)-1].Seal {
			text, _ := token.Seal(s.Config, s.Key, out.Pacer.Store)
			w.Tokens = append(w.Tokens, text)
		}
		w.Sess = out
	case api.StepTick:
		out, e := sess.Tick(s.Config, s.Source, w.Sess, w.Dev)
		if e != api.OK {
			return w, false
		}
		w.Sess, w.Dev, w.Trace = out.Sess, out.Dev, append(w.Trace, out.Sees...)
	case api.StepHarm:
		d, e := harm.Do(s.Config, w.Dev, w.Trace, x.Harm)
		if e != api.OK {
			return w, false
		}
		w.Dev = d
	case api.StepOpen:
		if x.N >= len(w.Tokens) || len(w.Sess.Rets) > 256-s.Config.Clients {
			return w, false
		}
		p := &w.Sess.Pacer
		out, _ := token.Open(s.Config, s.Key, s.Source, w.Tokens[x.N], w.Dev, p.Store.Next, p.Store.Ticks)
		w.Opens = append(w.Opens, api.Opening{Token: x.N, Rets: len(w.Sess.Rets), Code: out.Fault.Code})
		w.Trace, w.Sess.Frames = append(w.Trace, out.Sees...), api.Frames{}
		w.Sess.Frames, _ = frames.New(s.Config)
		p.Queue, p.Store, p.Fault = nil, out.Store, out.Fault
		for i := range w.Sess.Clients {
			if y := &w.Sess.Clients[i]; y.Wait > 0 {
				w.Sess.Rets = append(w.Sess.Rets, api.Ret{Client: i, Call: y.At, Tick: p.Store.Ticks, Code: 6})
				y.At, y.Wait = y.At+1, 0
			}
		}
	}
	return w, true
}

// TestAsPlain is P29.1 and P29.3: scripts of all kinds, step by step.
func TestAsPlain(t *testing.T) {
	r := rand.New(rand.NewSource(52))
	harmed, opened, sealed := 0, 0, 0
	for range 25 {
		c := many(1+r.Intn(3), 1+r.Intn(4))
		s := scriptOf(r, c, 150, 40+r.Intn(100), true)
		w, e := run.Begin(s)
		if e != api.OK {
			t.Fatal(e)
		}
		for _, x := range s.Steps {
			kept := run.Twin(w)
			want, could := plain(s, w, x)
			got, is := run.Do(s, w, x)
			if is != could || !run.Same(got, want) || !run.Same(w, kept) {
				t.Fatal(x, is, could)
			}
			more := got.Trace[len(w.Trace):]
			if !run.Same(api.World{Trace: got.Trace[:len(w.Trace)]}, api.World{Trace: w.Trace}) {
				t.Fatal("what was seen is turned")
			}
			_, each, _ := conf.Seals(c)
			if x.Kind == api.StepTick && is && (len(more) != 2*each || len(canon.Written(more)) != each) {
				t.Fatal("a tick shows more, or less", len(more))
			}
			if x.Kind == api.StepHarm && is {
				harmed++
			}
			if x.Kind == api.StepOpen && is {
				opened++
			}
			sealed = max(sealed, len(got.Tokens))
			w = got
		}
		whole, e := run.Run(s)
		if e != api.OK || !run.Same(whole, w) {
			t.Fatal("Run does other steps", e)
		}
		asNumbered(t, w)
	}
	if harmed < 20 || opened < 10 || sealed < 2 {
		t.Error("too few of a kind:", harmed, opened, sealed)
	}
}

// asNumbered asks that numbers by which buckets are sealed rise, but for echoes, which write what stood there.
func asNumbered(t *testing.T, w api.World) {
	next := uint64(0)
	read := map[[2]int][]byte{}
	for _, x := range w.Trace {
		place := [2]int{x.Level, x.Bucket}
		if x.Kind == api.SeeRead {
			read[place] = x.Bytes
			continue
		}
		n := binary.LittleEndian.Uint64(x.Bytes)
		if bytes.Equal(read[place], x.Bytes) {
			continue
		}
		if n != next {
			t.Fatal("a number comes again, or is left out", n, next)
		}
		next++
	}
	if w.Sess.Pacer.Store.Next != next {
		t.Fatal(w.Sess.Pacer.Store.Next, next)
	}
}

// TestCanonical is theorem C: scripts of picks and ticks that go well show the canonical trace; and by ChaCha's streams what they show by the pad of these (D).
func TestCanonical(t *testing.T) {
	r := rand.New(rand.NewSource(53))
	for range 12 {
		c := many(1+r.Intn(3), 1+r.Intn(4))
		s := scriptOf(r, c, 100, 200, false)
		w, _ := run.Begin(s)
		var units []api.Unit
		for _, x := range s.Steps {
			if x.Kind == api.StepTick {
				units = append(units, append(slices.Clone(w.Sess.Pacer.Queue), api.Unit{})[0])
			}
			w, _ = run.Do(s, w, x)
		}
		if w.Sess.Pacer.Fault.Code != api.OK {
			t.Fatal(w.Sess.Pacer.Fault)
		}
		perm, _ := order.Perm(c, units)
		var cells [][]uint32
		for level, l := range s.Lanes {
			put, _ := order.Apply(perm[level], l.Cells[:2*len(units)])
			cells = append(cells, put)
		}
		trace, e := canon.Trace(c, cells, canon.Written(w.Trace), len(units))
		if e != api.OK || !run.Same(api.World{Trace: trace}, api.World{Trace: w.Trace}) {
			t.Fatal("another trace", e)
		}
		width, _ := conf.Width(c)
		padded := s
		padded.Source, _ = lane.Spread(s.Source, int(w.Sess.Pacer.Store.Next), width)
		again, e := run.Run(padded)
		if e != api.OK || !run.Same(again, w) {
			t.Fatal("another trace by the pad", e)
		}
		// Other clients show the same by other cells and another pad.
		lanes, pad, e := canon.Back(c, make([]api.Unit, len(units)), cells, canon.Written(w.Trace))
		if e != api.OK {
			t.Fatal(e)
		}
		idle := api.Script{Config: c, Source: pad, Calls: make([][]api.Call, c.Clients), Steps: slices.Repeat([]api.Step{tick()}, len(units))}
		for _, cells := range lanes {
			idle.Lanes = append(idle.Lanes, api.Lane{Cells: cells})
		}
		other, e := run.Run(idle)
		if e != api.OK || !run.Same(api.World{Trace: other.Trace}, api.World{Trace: w.Trace}) {
			t.Fatal("idleness shows", e)
		}
	}
}

// TestSameAndTwin is P29.1, of any worlds.
func TestSameAndTwin(t *testing.T) {
	first := func() api.World {
		return api.World{
			Sess: api.Sess{Rets: []api.Ret{{Client: -1}}}, Dev: api.Dev{Levels: [][][]byte{{{1}}}}, Trace: []api.See{{Kind: 9, Bytes: []byte{4}}}, Tokens: [][]byte{{1}, nil}, Opens: []api.Opening{{Token: -1, Rets: -2, Code: 3}},
		}
	}
	for i, turn := range []func(*api.World){
		func(x *api.World) { x.Sess.Rets[0].Client++ }, func(x *api.World) { x.Dev.Levels[0][0][0]++ }, func(x *api.World) { x.Trace[0].Bytes[0]++ }, func(x *api.World) { x.Trace = nil }, func(x *api.World) { x.Tokens[0][0]++ }, func(x *api.World) { x.Tokens = x.Tokens[:1] }, func(x *api.World) { x.Tokens[1] = []byte{0} },
		func(x *api.World) { x.Opens = nil }, func(x *api.World) { x.Opens[0].Token++ }, func(x *api.World) { x.Opens[0].Rets++ }, func(x *api.World) { x.Opens[0].Code++ },
	} {
		a := first()
		b := run.Twin(a)
		if !run.Same(a, b) {
			t.Fatal("a twin is another one")
		}
		turn(&b)
		if run.Same(a, b) || run.Same(b, a) || !run.Same(a, first()) {
			t.Error("the same, or shared:", i)
		}
	}
	if !isNone(run.Twin(api.World{})) || !isNone(api.World{Tokens: [][]byte{}, Opens: []api.Opening{}}) {
		t.Error("none and no element aren't the same")
	}
}

// wipe turns what a world has.
func wipe(w api.World) {
	for _, b := range slices.Concat(w.Dev.Levels...) {
		clear(b)
	}
	for _, x := range w.Trace {
		clear(x.Bytes)
	}
	for _, x := range w.Tokens {
		clear(x)
	}
	for i := range w.Sess.Clients {
		for j := range w.Sess.Clients[i].Calls {
			clear(w.Sess.Clients[i].Calls[j].Data)
		}
	}
	for i := range w.Sess.Pacer.Lanes {
		clear(w.Sess.Pacer.Lanes[i].Cells)
	}
	clear(w.Sess.Pacer.Store.Map)
	clear(w.Opens)
	clear(w.Sess.Rets)
}

// TestMemory is P29.2.
func TestMemory(t *testing.T) {
	r := rand.New(rand.NewSource(54))
	c := many(2, 4)
	s := scriptOf(r, c, 60, 60, true)
	one, _ := run.Run(s)
	twin := run.Twin(one)
	for _, b := range slices.Concat(one.Dev.Levels...) {
		clear(b)
	}
	if !run.Same(api.World{Trace: one.Trace, Tokens: one.Tokens}, api.World{Trace: twin.Trace, Tokens: twin.Tokens}) {
		t.Error("parts are shared")
	}
	wipe(one)
	two, _ := run.Run(s)
	if !run.Same(two, twin) {
		t.Error("a script is turned")
	}
	for _, x := range []api.Step{pick(0), tick(), {Kind: api.StepHarm, Harm: api.Harm{Kind: api.HarmCrash}}, open(0), {}} {
		got, _ := run.Do(s, two, x)
		wipe(got)
		if !run.Same(two, twin) {
			t.Error("memory is shared", x)
		}
	}
}
