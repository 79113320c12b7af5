package stash_test

import (
	"math"
	"math/rand"
	"slices"
	"testing"

	"thimblerig/api"
	"thimblerig/slot"
	"thimblerig/stash"
)

// eight is the level of the chapter's examples.
func eight() api.Level {
	return api.Level{Blocks: 8, Size: 1, High: 3, Width: 73}
}

func block(id int, data byte) api.Block {
	return api.Block{Id: id, Leaf: (id + 3) % 8, Data: []byte{data}}
}

// of is a stash of some Ids, each block with its Id as data.
func of(ids ...int) []api.Block {
	var s []api.Block
	for _, id := range ids {
		s = append(s, block(id, byte(id)))
	}
	return s
}

func isNone(b api.Block) bool {
	return b.Id == 0 && b.Leaf == 0 && len(b.Data) == 0
}

// TestCheck is P16.1: stashes that may be, and that may not; every call asks first.
func TestCheck(t *testing.T) {
	bad := eight()
	bad.Width = 74
	for i, x := range []struct {
		l api.Level
		s []api.Block
		e api.Errno
	}{
		{eight(), nil, api.OK}, {eight(), of(0), api.OK}, {eight(), of(2, 5), api.OK}, {eight(), of(0, 1, 2, 3, 4, 5, 6, 7), api.OK},
		{eight(), of(5, 2), api.ErrBad}, {eight(), of(2, 2), api.ErrBad}, {eight(), of(1, 3, 3), api.ErrBad}, {eight(), of(1, 4, 2), api.ErrBad},
		{eight(), []api.Block{{Id: 8, Data: []byte{1}}}, api.ErrBad}, {eight(), []api.Block{{Id: -1, Data: []byte{1}}}, api.ErrBad}, {eight(), []api.Block{block(1, 1), {Id: 2, Leaf: 8, Data: []byte{1}}}, api.ErrBad}, {eight(), []api.Block{{Id: 2}}, api.ErrBad},
		{bad, nil, api.ErrBad}, {api.Level{}, nil, api.ErrBad},
	} {
		if e := stash.Check(x.l, x.s); e != x.e {
			t.Error("Check", i, e)
		}
		if x.e == api.OK {
			continue
		}
		if b, is := stash.Find(x.l, x.s, 2); is || !isNone(b) {
			t.Error("Find", i, b, is)
		}
		if out, e := stash.Put(x.l, x.s, block(7, 1)); e != api.ErrBad || len(out) != 0 {
			t.Error("Put", i, out, e)
		}
		if out, e := stash.Drop(x.l, x.s, 99); e != api.ErrBad || len(out) != 0 {
			t.Error("Drop", i, out, e)
		}
		if out, e := stash.Add(x.l, x.s, nil); e != api.ErrBad || len(out) != 0 {
			t.Error("Add", i, out, e)
		}
	}
}

// TestFind is P16.1.
func TestFind(t *testing.T) {
	for _, ids := range [][]int{{}, {3}, {2, 5}, {0, 3, 7}, {0, 1, 2, 3, 4, 5, 6, 7}, {1, 2, 4, 6}} {
		for id := -2; id < 10; id++ {
			b, is := stash.Find(eight(), of(ids...), id)
			if is != slices.Contains(ids, id) || is && !slot.Same(b, block(id, byte(id))) || !is && !isNone(b) {
				t.Error(ids, id, b, is)
			}
		}
		if _, is := stash.Find(eight(), of(ids...), math.MinInt); is {
			t.Error(ids)
		}
		if _, is := stash.Find(eight(), of(ids...), math.MaxInt); is {
			t.Error(ids)
		}
	}
}

// TestPut is P16.2.
func TestPut(t *testing.T) {
	one, e := stash.Put(eight(), nil, block(5, 5))
	if e != api.OK || !stash.Same(one, of(5)) {
		t.Fatal(one, e)
	}
	for _, x := range []struct {
		s    []int
		id   int
		want []int
	}{{[]int{5}, 2, []int{2, 5}}, {[]int{2}, 5, []int{2, 5}}, {[]int{0, 2, 7}, 5, []int{0, 2, 5, 7}}, {[]int{1}, 0, []int{0, 1}}, {[]int{1, 2, 3}, 2, []int{1, 2, 3}}} {
		if out, e := stash.Put(eight(), of(x.s...), block(x.id, byte(x.id))); e != api.OK || !stash.Same(out, of(x.want...)) {
			t.Error(x, out, e)
		}
	}
	out, e := stash.Put(eight(), of(2, 5, 6), api.Block{Id: 5, Leaf: 1, Data: []byte{99}})
	if e != api.OK || !stash.Same(out, []api.Block{block(2, 2), {Id: 5, Leaf: 1, Data: []byte{99}}, block(6, 6)}) {
		t.Error(out, e)
	}
	for _, b := range []api.Block{{Id: 8, Data: []byte{1}}, {Id: -1, Data: []byte{1}}, {Id: 1, Leaf: 8, Data: []byte{1}}, {Id: 1}, {}} {
		if out, e := stash.Put(eight(), of(1, 2), b); e != api.ErrBad || len(out) != 0 {
			t.Error(b, out, e)
		}
	}
}

// TestDrop is P16.2.
func TestDrop(t *testing.T) {
	for _, x := range []struct {
		s    []int
		id   int
		want []int
		e    api.Errno
	}{
		{[]int{2, 5}, 2, []int{5}, api.OK}, {[]int{2, 5}, 5, []int{2}, api.OK}, {[]int{5}, 5, nil, api.OK}, {[]int{1, 2, 3}, 2, []int{1, 3}, api.OK},
		{[]int{2, 5}, 3, nil, api.ErrNone}, {nil, 3, nil, api.ErrNone}, {[]int{2, 5}, -1, nil, api.ErrNone}, {[]int{2, 5}, 8, nil, api.ErrNone}, {[]int{2, 5}, math.MaxInt, nil, api.ErrNone}, {[]int{2, 5}, 6, nil, api.ErrNone},
	} {
		if out, e := stash.Drop(eight(), of(x.s...), x.id); e != x.e || !stash.Same(out, of(x.want...)) {
			t.Error(x, out, e)
		}
	}
}

// TestAdd is P16.2.
func TestAdd(t *testing.T) {
	for _, x := range []struct {
		s, more, want []int
		e             api.Errno
	}{
		{nil, nil, nil, api.OK}, {[]int{2, 5}, nil, []int{2, 5}, api.OK}, {nil, []int{5, 2, 7, 0}, []int{0, 2, 5, 7}, api.OK}, {[]int{2, 5}, []int{7, 3, 0}, []int{0, 2, 3, 5, 7}, api.OK},
		{[]int{2, 5}, []int{2}, nil, api.ErrBad}, {[]int{2, 5}, []int{3, 5}, nil, api.ErrBad}, {[]int{2, 5}, []int{3, 3}, nil, api.ErrBad}, {nil, []int{3, 1, 3}, nil, api.ErrBad}, {[]int{2, 5}, []int{8}, nil, api.ErrBad}, {[]int{2, 5}, []int{1, -1}, nil, api.ErrBad},
	} {
		if out, e := stash.Add(eight(), of(x.s...), of(x.more...)); e != x.e || !stash.Same(out, of(x.want...)) {
			t.Error(x, out, e)
		}
	}
	for _, b := range []api.Block{{Id: 1, Leaf: 8, Data: []byte{1}}, {Id: 1}, {Id: 1, Data: []byte{1, 2}}} {
		if out, e := stash.Add(eight(), of(2), []api.Block{b}); e != api.ErrBad || len(out) != 0 {
			t.Error(b, out, e)
		}
	}
}

// TestSameAndTwin is P16.1, of any stashes.
func TestSameAndTwin(t *testing.T) {
	odd := []api.Block{{Id: 9, Leaf: -4, Data: []byte("ab")}, {Id: 9}, {Id: -1, Data: []byte{1}}}
	for i := range 5 {
		other := stash.Twin(odd)
		switch i {
		case 0:
			other[0].Data[1]++
		case 1:
			other[2].Id--
		case 2:
			other[1].Leaf++
		case 3:
			other = other[:2]
		case 4:
			other = append(other, api.Block{})
		}
		if stash.Same(odd, other) || stash.Same(other, odd) {
			t.Error("the same:", i)
		}
	}
	if odd[0].Data[1] != 'b' || odd[2].Id != -1 || !stash.Same(odd, stash.Twin(odd)) || !stash.Same(nil, []api.Block{}) || len(stash.Twin(nil)) != 0 {
		t.Error("a twin shares memory", odd)
	}
}

// TestMemory is P16.3: all that is answered is apart from what was handed in.
func TestMemory(t *testing.T) {
	s, more := of(2, 5), of(3)
	wipe := func(out []api.Block) {
		for i := range out {
			clear(out[i].Data)
			out[i] = api.Block{}
		}
	}
	found, _ := stash.Find(eight(), s, 5)
	put, _ := stash.Put(eight(), s, more[0])
	five := block(5, 9)
	again, _ := stash.Put(eight(), s, five)
	dropped, _ := stash.Drop(eight(), s, 2)
	added, _ := stash.Add(eight(), s, more)
	roomy := append(make([]api.Block, 0, 10), s...)
	stash.Put(eight(), roomy, block(0, 0))
	stash.Add(eight(), roomy, more)
	stash.Drop(eight(), roomy, 2)
	if !stash.Same(roomy, of(2, 5)) || !isNone(roomy[:3][2]) {
		t.Error("turned what was handed in:", roomy)
	}
	for i, out := range [][]api.Block{{found}, put, again, dropped, added} {
		wipe(out)
		if !stash.Same(s, of(2, 5)) || !stash.Same(more, of(3)) || five.Data[0] != 9 {
			t.Error("memory is shared:", i)
		}
	}
}

// TestFollows is P16.4: a stash held against a plain map.
func TestFollows(t *testing.T) {
	r := rand.New(rand.NewSource(19))
	for range 100 {
		plain := map[int]byte{}
		var s []api.Block
		for range 60 {
			id, data := r.Intn(8), byte(r.Int())
			var e api.Errno
			_, had := plain[id]
			now := s
			switch r.Intn(3) {
			case 0:
				now, e = stash.Put(eight(), s, block(id, data))
				plain[id] = data
			case 1:
				if now, e = stash.Drop(eight(), s, id); had != (e == api.OK) {
					t.Fatal(id, e)
				}
				delete(plain, id)
			case 2:
				if now, e = stash.Add(eight(), s, []api.Block{block(id, data)}); had == (e == api.OK) {
					t.Fatal(id, e)
				}
				if !had {
					plain[id] = data
				}
			}
			if e == api.OK {
				s = now
			}
			if len(s) != len(plain) || stash.Check(eight(), s) != api.OK {
				t.Fatal(s, plain)
			}
			for id, data := range plain {
				if b, is := stash.Find(eight(), s, id); !is || !slot.Same(b, block(id, data)) {
					t.Fatal(id, b, is)
				}
			}
		}
		ids := r.Perm(8)[:r.Intn(9)]
		one, _ := stash.Add(eight(), nil, of(ids...))
		r.Shuffle(len(ids), func(i, j int) { ids[i], ids[j] = ids[j], ids[i] })
		two, e := stash.Add(eight(), nil, of(ids...))
		if e != api.OK || !stash.Same(one, two) {
			t.Fatal("another order tells another stash", one, two)
		}
	}
}
