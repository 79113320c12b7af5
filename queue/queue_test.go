package queue_test

import (
	"math"
	"math/rand"
	"testing"

	"thimblerig/api"
	"thimblerig/queue"
)

// four is a config of a queue of 4 units, 8 pages of 2 bytes and 3 frames.
func four() api.Config {
	return api.Config{Pages: 8, Size: 2, Fan: 2, Slots: 2, Stash: 8, Frames: 3, Clients: 2, Queue: 4, Top: 2}
}

func fetch(page, frame int) api.Unit {
	return api.Unit{Kind: api.UnitFetch, Page: page, Frame: frame}
}

func write(page, frame int, data string) api.Unit {
	return api.Unit{Kind: api.UnitWrite, Page: page, Frame: frame, Data: []byte(data)}
}

func of(l ...api.Unit) []api.Unit { return l }

func isNone(u api.Unit) bool { return queue.Same(of(u), of(api.Unit{})) }

// bad are units that may not be in a queue.
func bad() []api.Unit {
	return of(
		api.Unit{}, api.Unit{Kind: 3}, api.Unit{Kind: 255, Data: []byte("ab")}, api.Unit{Kind: 3, Data: []byte("ab")},
		fetch(8, 0), fetch(-1, 0), fetch(math.MinInt, 0), fetch(0, 3), fetch(0, -1), fetch(0, math.MaxInt), api.Unit{Kind: api.UnitFetch, Data: []byte("a")}, api.Unit{Kind: api.UnitFetch, Data: []byte("ab")},
		write(8, 0, "ab"), write(-1, 0, "ab"), write(0, 3, "ab"), write(0, -1, "ab"), write(0, 0, "a"), write(0, 0, "abc"), write(0, 0, ""),
	)
}

// TestExample is that of the chapter.
func TestExample(t *testing.T) {
	c := four()
	c.Queue = 2
	q, e := queue.Put(c, nil, of(fetch(1, 0)))
	if e != api.OK || !queue.Same(q, of(fetch(1, 0))) {
		t.Fatal(q, e)
	}
	q, e = queue.Put(c, q, of(fetch(2, 1)))
	if e != api.OK || !queue.Same(q, of(fetch(1, 0), fetch(2, 1))) {
		t.Fatal(q, e)
	}
	if out, u, e := queue.Take(c, q); e != api.OK || !queue.Same(of(u), of(fetch(1, 0))) || !queue.Same(out, of(fetch(2, 1))) {
		t.Error(out, u, e)
	}
	if n, e := queue.Ahead(c, q, 2); n != 2 || e != api.OK {
		t.Error(n, e)
	}
	if out, e := queue.Put(c, q, of(fetch(3, 0))); e != api.ErrBusy || len(out) != 0 {
		t.Error(out, e)
	}
	if out, e := queue.Put(c, q[:1], of(fetch(3, 0), fetch(4, 0))); e != api.ErrBusy || len(out) != 0 {
		t.Error(out, e)
	}
}

// TestCheck is P23.1: queues that may be, and that may not; every call asks first.
func TestCheck(t *testing.T) {
	odd := four()
	odd.Size = 0
	refuse := func(c api.Config, q []api.Unit) {
		t.Helper()
		if e := queue.Check(c, q); e != api.ErrBad {
			t.Error("Check", q, e)
		}
		if out, e := queue.Put(c, q, of(fetch(0, 0), fetch(0, 0), fetch(0, 0), fetch(0, 0))); e != api.ErrBad || len(out) != 0 {
			t.Error("Put", q, e)
		}
		if out, u, e := queue.Take(c, q); e != api.ErrBad || len(out) != 0 || !isNone(u) {
			t.Error("Take", q, e)
		}
		if n, e := queue.Ahead(c, q, 99); e != api.ErrBad || n != 0 {
			t.Error("Ahead", q, e)
		}
	}
	for _, u := range bad() {
		refuse(four(), of(u))
		refuse(four(), of(fetch(1, 1), u))
		if out, e := queue.Put(four(), of(fetch(1, 1)), of(fetch(2, 2), u)); e != api.ErrBad || len(out) != 0 {
			t.Error("Put", u, e)
		}
		if out, e := queue.Put(four(), of(fetch(1, 1)), of(u, fetch(2, 2), fetch(2, 2), fetch(2, 2))); e != api.ErrBad || len(out) != 0 {
			t.Error("what may not be comes ahead of ErrBusy", u, e)
		}
	}
	refuse(odd, nil)
	refuse(api.Config{}, nil)
	refuse(four(), of(fetch(0, 0), fetch(0, 0), fetch(0, 0), fetch(0, 0), fetch(0, 0)))
	for _, q := range [][]api.Unit{nil, of(fetch(0, 0)), of(fetch(7, 2), write(7, 2, "ab"), write(0, 0, "cd"), fetch(7, 2))} {
		if e := queue.Check(four(), q); e != api.OK {
			t.Error(q, e)
		}
	}
}

// TestPut is P23.1: up to as many as Queue.
func TestPut(t *testing.T) {
	q := of(write(1, 0, "ab"), fetch(2, 1))
	for more, want := range []api.Errno{api.OK, api.OK, api.OK, api.ErrBusy, api.ErrBusy} {
		units := of(fetch(3, 0), write(4, 1, "cd"), fetch(5, 2), fetch(6, 0))[:more]
		out, e := queue.Put(four(), q, units)
		if e != want || e == api.OK && !queue.Same(out, append(of(q...), units...)) || e != api.OK && len(out) != 0 {
			t.Error(more, out, e)
		}
	}
	if out, e := queue.Put(four(), nil, nil); e != api.OK || len(out) != 0 {
		t.Error(out, e)
	}
}

// TestTakeAndAhead is P23.1.
func TestTakeAndAhead(t *testing.T) {
	if out, u, e := queue.Take(four(), nil); e != api.ErrNone || len(out) != 0 || !isNone(u) {
		t.Error(out, u, e)
	}
	q := of(fetch(1, 0), write(2, 1, "ab"), fetch(1, 2), write(3, 0, "cd"))
	for page, want := range []int{0, 3, 2, 4, 0} {
		e1 := api.OK
		if want == 0 {
			e1 = api.ErrNone
		}
		if n, e := queue.Ahead(four(), q, page); n != want || e != e1 {
			t.Error(page, n, e)
		}
	}
	for _, page := range []int{-1, 8, math.MinInt, math.MaxInt} {
		if n, e := queue.Ahead(four(), q, page); n != 0 || e != api.ErrNone {
			t.Error(page, n, e)
		}
	}
	if n, e := queue.Ahead(four(), nil, 0); n != 0 || e != api.ErrNone {
		t.Error(n, e)
	}
	for i := range q {
		out, u, e := queue.Take(four(), q[i:])
		if e != api.OK || !queue.Same(of(u), q[i:i+1]) || !queue.Same(out, q[i+1:]) {
			t.Error(i, out, u, e)
		}
	}
}

// TestSameAndTwin is P23.2, of any units, and what is shared.
func TestSameAndTwin(t *testing.T) {
	first := func() []api.Unit { return of(api.Unit{Kind: 77, Page: -5, Frame: 99, Data: []byte("ab")}, api.Unit{}) }
	a := first()
	for i, turn := range []func(q []api.Unit) []api.Unit{
		func(q []api.Unit) []api.Unit { q[0].Kind++; return q }, func(q []api.Unit) []api.Unit { q[0].Page++; return q }, func(q []api.Unit) []api.Unit { q[1].Frame++; return q }, func(q []api.Unit) []api.Unit { q[0].Data[1]++; return q },
		func(q []api.Unit) []api.Unit { q[1].Data = []byte{0}; return q }, func(q []api.Unit) []api.Unit { return q[:1] }, func(q []api.Unit) []api.Unit { return append(q, api.Unit{}) },
	} {
		b := turn(queue.Twin(a))
		if queue.Same(a, b) || queue.Same(b, a) {
			t.Error("the same:", i)
		}
		if !queue.Same(a, first()) || !queue.Same(queue.Twin(a), a) {
			t.Error("a twin shares memory:", i)
		}
	}
	if !queue.Same(nil, of()) || len(queue.Twin(nil)) != 0 {
		t.Error("none and no element aren't the same")
	}
	q, more := append(make([]api.Unit, 0, 9), write(1, 0, "ab"), write(2, 1, "cd")), of(write(3, 2, "ef"))
	wipe := func(out []api.Unit) {
		for i := range out {
			clear(out[i].Data)
			out[i].Page = 7
		}
	}
	put, _ := queue.Put(four(), q, more)
	wipe(put)
	put, _ = queue.Put(four(), q, nil)
	wipe(put)
	put, _ = queue.Put(four(), nil, more)
	wipe(put)
	out, u, _ := queue.Take(four(), q)
	wipe(out)
	wipe(of(u))
	if !queue.Same(q, of(write(1, 0, "ab"), write(2, 1, "cd"))) || !queue.Same(more, of(write(3, 2, "ef"))) || q[:3][2].Kind != 0 {
		t.Error("memory is shared", q, more)
	}
}

// TestFollows is P23.3: units are taken in the order in which they were put, each once.
func TestFollows(t *testing.T) {
	r := rand.New(rand.NewSource(35))
	c := four()
	c.Queue = 16
	var q, put, taken []api.Unit
	for range 2000 {
		if r.Intn(2) == 0 {
			var more []api.Unit
			for range r.Intn(4) {
				u := fetch(r.Intn(8), r.Intn(3))
				if r.Intn(2) == 0 {
					u = write(r.Intn(8), r.Intn(3), string([]byte{byte(r.Int()), byte(r.Int())}))
				}
				more = append(more, u)
			}
			out, e := queue.Put(c, q, more)
			if (e == api.OK) != (len(q)+len(more) <= 16) {
				t.Fatal(len(q), len(more), e)
			}
			if e == api.OK {
				q, put = out, append(put, more...)
			}
		} else if out, u, e := queue.Take(c, q); e == api.OK {
			q, taken = out, append(taken, u)
		}
	}
	if !queue.Same(append(taken, q...), put) {
		t.Error("another order")
	}
}
