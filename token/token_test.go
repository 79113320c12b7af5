package token_test

import (
	"bytes"
	"crypto/sha256"
	"math/rand"
	"slices"
	"testing"

	"thimblerig/api"
	"thimblerig/bucket"
	"thimblerig/conf"
	"thimblerig/dev"
	"thimblerig/rec"
	"thimblerig/seal"
	"thimblerig/token"
)

// two is the config of chapter 18's examples.
func two() api.Config {
	return api.Config{Pages: 2, Size: 1, Fan: 2, Slots: 1, Stash: 2, Frames: 1, Clients: 1, Queue: 1, Top: 2}
}

// eight is the config of chapter 8's examples, of three levels, with one slot a bucket.
func eight() api.Config {
	return api.Config{Pages: 8, Size: 4, Fan: 2, Slots: 1, Stash: 5, Frames: 2, Clients: 2, Queue: 4, Top: 2}
}

func chacha(first byte) api.Source {
	return api.Source{Kind: api.FromChacha, Key: api.Key{first}}
}

func isNone(w api.Work) bool { return rec.Same(w, api.Work{}) }

func sameStore(a, b api.Store) bool { return rec.Same(api.Work{Store: a}, api.Work{Store: b}) }

// untrusted is a store of which nothing is trusted.
func untrusted(c api.Config, next, ticks uint64) api.Store {
	levels, _ := conf.Levels(c)
	return api.Store{Levels: make([]api.Oram, len(levels)), Map: make([]int, levels[len(levels)-1].Blocks), Next: next, Ticks: ticks}
}

// begin is a new store, and its device.
func begin(t *testing.T, c api.Config) api.Work {
	t.Helper()
	w, e := rec.New(c, chacha(1), 0, 0)
	if e != api.OK {
		t.Fatal(e)
	}
	return w
}

// busy is a store behind some ticks, with blocks in its stashes, and its device.
func busy(t *testing.T, r *rand.Rand, c api.Config) api.Work {
	t.Helper()
	w := begin(t, c)
	for {
		cells := [][2]uint32{{r.Uint32() & 1, r.Uint32()}, {r.Uint32() & 1, r.Uint32()}, {r.Uint32(), r.Uint32()}}
		next, e := rec.Ask(c, chacha(1), w.Store, w.Dev, cells, api.Unit{Kind: api.UnitWrite, Page: r.Intn(8), Data: []byte{byte(r.Int()), 1, 2, 3}})
		if e != api.OK {
			t.Fatal(e)
		}
		if next.Fault.Code != api.OK {
			w = begin(t, c)
			continue
		}
		w = next
		if w.Store.Ticks > 6 && len(w.Store.Levels[0].Stash) > 0 && r.Intn(3) == 0 {
			return w
		}
	}
}

// signed is a token's text with the digest that it should have.
func signed(k api.Key, body []byte) []byte {
	sum := sha256.Sum256(slices.Concat(k[:], body))
	return slices.Concat(body, sum[:])
}

// TestExample is that of the chapter.
func TestExample(t *testing.T) {
	c := two()
	if n, e := token.Size(c); n != 90 || e != api.OK {
		t.Fatal(n, e)
	}
	w := begin(t, c)
	k := api.Key{5}
	text, e := token.Seal(c, k, w.Store)
	root := w.Store.Levels[0].Root
	if e != api.OK || !bytes.Equal(text, signed(k, slices.Concat(root[:], make([]byte, 26)))) {
		t.Fatal(text, e)
	}
	got, e := token.Open(c, k, chacha(1), text, w.Dev, w.Store.Next, w.Store.Ticks)
	if e != api.OK || got.Fault.Code != api.OK || !sameStore(got.Store, w.Store) || len(got.Sees) != 3 {
		t.Fatal(got, e)
	}
	hurt := dev.Twin(w.Dev)
	hurt.Levels[0][2][10] ^= 16
	got, e = token.Open(c, k, chacha(1), text, hurt, 7, 8)
	if e != api.OK || got.Fault.Code != api.ErrIntegrity || !slices.Equal(got.Fault.Marks, []api.Mark{{Level: 0, Place: 3}}) || !sameStore(got.Store, untrusted(c, 7, 8)) || !dev.Same(got.Dev, hurt) || len(got.Sees) != 3 {
		t.Fatal(got, e)
	}
	got, e = token.Open(c, api.Key{6}, chacha(1), text, w.Dev, 7, 8)
	if e != api.OK || !rec.Same(got, api.Work{Store: untrusted(c, 7, 8), Dev: w.Dev, Fault: api.Fault{Code: api.ErrIntegrity}}) {
		t.Fatal(got, e)
	}
	if got, e := token.Open(c, k, chacha(1), text[:89], w.Dev, 0, 0); e != api.ErrShort || !isNone(got) {
		t.Fatal(got, e)
	}
}

// TestSize is P28.1, of configs of all kinds.
func TestSize(t *testing.T) {
	r := rand.New(rand.NewSource(46))
	for range 500 {
		c := api.Config{Pages: 1 + r.Intn(64), Size: 1 + r.Intn(32), Fan: 2 + r.Intn(7), Slots: 1 + r.Intn(4), Stash: 1 + r.Intn(64), Frames: 1, Clients: 1, Queue: 1, Top: 1 + r.Intn(16)}
		levels, e := conf.Levels(c)
		n, e2 := token.Size(c)
		if e != e2 {
			t.Fatal(c, e, e2)
		}
		if e != api.OK {
			if n != 0 {
				t.Fatal(n)
			}
			continue
		}
		want := 32 + 4*levels[len(levels)-1].Blocks
		for _, l := range levels {
			want += 32 + c.Stash*(8+l.Size)
		}
		if n != want {
			t.Fatal(c, n, want)
		}
	}
	if n, e := token.Size(api.Config{}); n != 0 || e != api.ErrBad {
		t.Error(n, e)
	}
}

// TestSeal is P28.1: what a token has, place by place, and what it refuses.
func TestSeal(t *testing.T) {
	r := rand.New(rand.NewSource(47))
	c := eight()
	k := api.Key{9, 31: 4}
	for range 20 {
		w := busy(t, r, c)
		text, e := token.Seal(c, k, w.Store)
		size, _ := token.Size(c)
		if e != api.OK || len(text) != size {
			t.Fatal(len(text), size, e)
		}
		var want []byte
		for level, o := range w.Store.Levels {
			want = append(want, o.Root[:]...)
			for i := range c.Stash {
				slot := make([]byte, []int{12, 16, 16}[level])
				if i < len(o.Stash) {
					b := o.Stash[i]
					copy(slot, append([]byte{byte(b.Id + 1), 0, 0, 0, byte(b.Leaf), 0, 0, 0}, b.Data...))
				}
				want = append(want, slot...)
			}
		}
		for _, position := range w.Store.Map {
			want = append(want, byte(position), 0, 0, 0)
		}
		if !bytes.Equal(text, signed(k, want)) {
			t.Fatal("another token")
		}
	}
	w := begin(t, c)
	odd := c
	odd.Frames = 0
	stash := func(many int) []api.Block {
		var out []api.Block
		for id := range many {
			out = append(out, api.Block{Id: id, Data: []byte("abcd")})
		}
		return out
	}
	for i, x := range []struct {
		c    api.Config
		turn func(st *api.Store)
		e    api.Errno
	}{
		{c, func(st *api.Store) { st.Levels[0].Stash = stash(5) }, api.OK}, {c, func(st *api.Store) { st.Levels[0].Stash = stash(6) }, api.ErrMany}, {c, func(st *api.Store) { st.Levels[0].Stash = stash(9) }, api.ErrBad},
		{odd, func(st *api.Store) {}, api.ErrBad}, {c, func(st *api.Store) { st.Levels = nil }, api.ErrBad}, {c, func(st *api.Store) { st.Map[1] = 3 }, api.ErrBad}, {c, func(st *api.Store) { st.Map[1] = 3; st.Levels[0].Stash = stash(6) }, api.ErrBad},
	} {
		st := rec.Twin(w).Store
		x.turn(&st)
		if text, e := token.Seal(x.c, k, st); e != x.e || (e == api.OK) != (len(text) > 0) {
			t.Error(i, e)
		}
	}
}

// TestOpenRefuses is P28.2: what is asked first, in its order.
func TestOpenRefuses(t *testing.T) {
	c := two()
	w := begin(t, c)
	k := api.Key{1}
	text, _ := token.Seal(c, k, w.Store)
	odd := c
	odd.Stash = 0
	other := begin(t, eight())
	for i, x := range []struct {
		c api.Config
		s api.Source
		t []byte
		d api.Dev
		e api.Errno
	}{
		{odd, chacha(1), nil, w.Dev, api.ErrBad}, {c, api.Source{}, nil, w.Dev, api.ErrBad}, {c, chacha(1), nil, other.Dev, api.ErrBad}, {c, chacha(1), nil, api.Dev{}, api.ErrBad},
		{c, chacha(1), nil, w.Dev, api.ErrShort}, {c, chacha(1), append(text, 0), w.Dev, api.ErrShort}, {c, chacha(1), text[1:], w.Dev, api.ErrShort},
	} {
		if got, e := token.Open(x.c, k, x.s, x.t, x.d, 5, 6); e != x.e || !isNone(got) {
			t.Error(i, e)
		}
	}
	narrow := api.Source{Kind: api.FromPad, Pad: make([]byte, 720), Width: 72}
	if got, e := token.Open(c, k, narrow, text, w.Dev, 5, 6); e != api.OK || got.Fault.Code != api.ErrIntegrity || !slices.Equal(got.Fault.Marks, []api.Mark{{Level: 0, Place: 1}}) {
		t.Error("too narrow a pad:", got.Fault, e)
	}
}

// TestTokensThatCantBe is P28.2: bytes that were turned, and texts with the right digest that tell no store.
func TestTokensThatCantBe(t *testing.T) {
	r := rand.New(rand.NewSource(48))
	c := eight()
	w := busy(t, r, c)
	k := api.Key{7}
	text, _ := token.Seal(c, k, w.Store)
	bad := api.Work{Store: untrusted(c, 3, 4), Dev: w.Dev, Fault: api.Fault{Code: api.ErrIntegrity}}
	refused := func(name string, text []byte) {
		t.Helper()
		if got, e := token.Open(c, k, chacha(1), text, w.Dev, 3, 4); e != api.OK || !rec.Same(got, bad) {
			t.Error(name, got.Fault, e)
		}
	}
	for i := range text {
		other := slices.Clone(text)
		other[i] ^= byte(1 << r.Intn(8))
		refused("a byte", other)
	}
	// Level 0 has its root, and five slots of 12 bytes; then come levels 1 and 2, of five slots of 16, and two positions.
	body := func(turn func(b []byte)) []byte {
		b := slices.Clone(text[:len(text)-32])
		clear(b[32:92])
		turn(b)
		return signed(k, b)
	}
	block := func(b []byte, at, id, leaf int) { b[32+12*at], b[36+12*at] = byte(id+1), byte(leaf) }
	last := len(text) - 40
	refused("none, then one", body(func(b []byte) { block(b, 1, 3, 0) }))
	refused("one, none, one", body(func(b []byte) { block(b, 0, 2, 0); block(b, 2, 3, 0) }))
	refused("Ids that fall", body(func(b []byte) { block(b, 0, 3, 0); block(b, 1, 2, 0) }))
	refused("one twice", body(func(b []byte) { block(b, 0, 3, 0); block(b, 1, 3, 1) }))
	refused("no block 8", body(func(b []byte) { block(b, 0, 8, 0) }))
	refused("no leaf 8", body(func(b []byte) { block(b, 0, 3, 8) }))
	refused("no slot", body(func(b []byte) { b[43] = 1 }))
	refused("no position", body(func(b []byte) { b[last] = 3 }))
	refused("no position", body(func(b []byte) { b[last+7] = 1 }))
	if got, _ := token.Open(c, k, chacha(1), body(func(b []byte) {}), w.Dev, 3, 4); got.Fault.Code != api.OK {
		t.Error("none of the stash is wanted by the device alone:", got.Fault)
	}
}

// TestDevices is P28.2 and P28.4: with its own device a token gives back the store; with another one it goes wrong, all having been read.
func TestDevices(t *testing.T) {
	r := rand.New(rand.NewSource(49))
	c := eight()
	for range 25 {
		w := busy(t, r, c)
		k := api.Key{byte(r.Int())}
		text, e := token.Seal(c, k, w.Store)
		if e != api.OK {
			t.Fatal(e)
		}
		var sees []api.See
		for level, many := range []int{15, 7, 3} {
			var l []api.See
			for at := 1; at <= many; at++ {
				l = append(l, api.See{Kind: api.SeeRead, Level: level, Bucket: at, Bytes: w.Dev.Levels[level][at-1]})
			}
			sees = append(l, sees...)
		}
		kept := rec.Twin(w)
		next, ticks := r.Uint64(), r.Uint64()
		want := rec.Twin(api.Work{Store: w.Store, Dev: w.Dev, Sees: sees})
		want.Store.Next, want.Store.Ticks = next, ticks
		got, e := token.Open(c, k, chacha(1), text, w.Dev, next, ticks)
		if e != api.OK || !rec.Same(got, want) || !rec.Same(w, kept) {
			t.Fatal(got.Fault, e)
		}
		for range 10 {
			hurt := dev.Twin(w.Dev)
			first, place := -1, 0
			for range 1 + r.Intn(3) {
				level := r.Intn(3)
				at := r.Intn(len(hurt.Levels[level]))
				hurt.Levels[level][at][r.Intn(80)] ^= byte(1 << r.Intn(8))
			}
			for level := 2; level >= 0 && first < 0; level-- {
				for at := range hurt.Levels[level] {
					if !bytes.Equal(hurt.Levels[level][at], w.Dev.Levels[level][at]) {
						first, place = level, at+1
						break
					}
				}
			}
			if first < 0 {
				continue
			}
			got, e := token.Open(c, k, chacha(1), text, hurt, next, ticks)
			if e != api.OK || got.Fault.Code != api.ErrIntegrity || !slices.Equal(got.Fault.Marks, []api.Mark{{Level: first, Place: place}}) || !sameStore(got.Store, untrusted(c, next, ticks)) || !dev.Same(got.Dev, hurt) || len(got.Sees) != 25 || len(got.Data) != 0 {
				t.Fatal(first, place, got.Fault, e)
			}
		}
	}
}

// TestPlaces is P28.2: buckets that are checked, but aren't in their places, or have a block that the stash has, too.
func TestPlaces(t *testing.T) {
	c, s, k := two(), chacha(1), api.Key{2}
	block := func(id, leaf int) []api.Block { return []api.Block{{Id: id, Leaf: leaf, Data: []byte{1}}} }
	for i, x := range []struct {
		root, left, right []api.Block
		stash             []api.Block
		e                 api.Errno
	}{
		{block(1, 1), block(0, 0), nil, nil, api.OK}, {nil, block(0, 0), nil, block(1, 0), api.OK}, {block(1, 1), nil, nil, block(0, 0), api.OK},
		{nil, block(0, 1), nil, nil, api.ErrIntegrity}, {nil, nil, block(0, 0), nil, api.ErrIntegrity}, {block(1, 1), nil, block(1, 1), nil, api.ErrIntegrity}, {nil, block(0, 0), nil, block(0, 0), api.ErrIntegrity}, {block(1, 0), nil, nil, block(1, 1), api.ErrIntegrity},
	} {
		level := api.Level{Blocks: 2, Size: 1, High: 1, Width: 73}
		put := func(n uint64, b api.Bucket) []byte {
			text, e := bucket.Write(level, b)
			if e != api.OK {
				t.Fatal(e)
			}
			sealed, _ := seal.Write(s, n, text)
			return sealed
		}
		left, right := put(0, api.Bucket{Blocks: x.left}), put(1, api.Bucket{Blocks: x.right})
		top := api.Bucket{Blocks: x.root}
		top.Left, _ = seal.Sum(0, 2, left)
		top.Right, _ = seal.Sum(0, 3, right)
		root := put(2, top)
		sum, _ := seal.Sum(0, 1, root)
		st := api.Store{Levels: []api.Oram{{Root: sum, Stash: x.stash}}, Map: []int{1, 2}, Next: 3}
		text, e := token.Seal(c, k, st)
		if e != api.OK {
			t.Fatal(e)
		}
		got, e := token.Open(c, k, s, text, api.Dev{Levels: [][][]byte{{root, left, right}}}, 3, 0)
		if e != api.OK || got.Fault.Code != x.e || len(got.Sees) != 3 {
			t.Error(i, got.Fault, e)
		}
		if x.e == api.OK && !sameStore(got.Store, st) || x.e != api.OK && (!sameStore(got.Store, untrusted(c, 3, 0)) || !slices.Equal(got.Fault.Marks, []api.Mark{{}})) {
			t.Error(i, got.Store, got.Fault)
		}
	}
}

// TestMemory is P28.3.
func TestMemory(t *testing.T) {
	r := rand.New(rand.NewSource(50))
	c, k := eight(), api.Key{3}
	w := busy(t, r, c)
	kept := rec.Twin(w)
	text, _ := token.Seal(c, k, w.Store)
	copyOf := slices.Clone(text)
	one, _ := token.Open(c, k, chacha(1), text, w.Dev, 1, 2)
	twin := rec.Twin(one)
	for _, o := range one.Store.Levels {
		for _, b := range o.Stash {
			clear(b.Data)
		}
	}
	clear(one.Store.Map)
	for _, b := range slices.Concat(one.Dev.Levels...) {
		clear(b)
	}
	if !rec.Same(api.Work{Sees: one.Sees}, api.Work{Sees: twin.Sees}) {
		t.Error("what is seen is shared")
	}
	for _, x := range one.Sees {
		clear(x.Bytes)
	}
	if !bytes.Equal(text, copyOf) || !rec.Same(w, kept) {
		t.Error("memory is shared")
	}
	clear(text)
	if again, e := token.Seal(c, k, w.Store); e != api.OK || !bytes.Equal(again, copyOf) {
		t.Error("a token shares the store")
	}
	failed, _ := token.Open(c, k, chacha(1), text, w.Dev, 1, 2)
	for _, b := range slices.Concat(failed.Dev.Levels...) {
		clear(b)
	}
	if !rec.Same(w, kept) {
		t.Error("the device is shared")
	}
}
