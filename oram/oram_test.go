package oram_test

import (
	"bytes"
	"math"
	"math/rand"
	"slices"
	"testing"

	"thimblerig/api"
	"thimblerig/bucket"
	"thimblerig/conf"
	"thimblerig/dev"
	"thimblerig/evict"
	"thimblerig/geo"
	"thimblerig/oram"
	"thimblerig/seal"
	"thimblerig/stash"
	"thimblerig/tree"
	"thimblerig/whole"
)

// two is the config of the chapter's examples.
func two() api.Config {
	return api.Config{Pages: 2, Size: 1, Fan: 2, Slots: 1, Stash: 2, Frames: 1, Clients: 1, Queue: 1, Top: 2}
}

// deep is a config of two levels: 16 blocks of 3 bytes, and 4 blocks of 16.
func deep(slots, most int) api.Config {
	return api.Config{Pages: 16, Size: 3, Fan: 4, Slots: slots, Stash: most, Frames: 1, Clients: 1, Queue: 1, Top: 4}
}

func chacha(first byte) api.Source {
	return api.Source{Kind: api.FromChacha, Key: api.Key{first}}
}

func pad(width, many int) api.Source {
	return api.Source{Kind: api.FromPad, Pad: make([]byte, width*many), Width: width}
}

// filled is a device whose level has a filled tree, with numbers from n on, and what is trusted of it.
func filled(t *testing.T, c api.Config, s api.Source, level int, n uint64) (api.Oram, api.Dev, uint64) {
	t.Helper()
	levels, _ := conf.Levels(c)
	all, root, e := whole.Fill(s, levels[level], level, n)
	if e != api.OK {
		t.Fatal(e)
	}
	d, _ := dev.New(c)
	var at []int
	for i := range all {
		at = append(at, len(all)-i)
	}
	d, _, e = dev.Write(c, d, level, at, all)
	if e != api.OK {
		t.Fatal(e)
	}
	return api.Oram{Root: root}, d, n + uint64(len(all))
}

func isNone(t api.Turn) bool {
	return oram.Same(t, api.Turn{})
}

// untrusted tells whether nothing is trusted, and no data told.
func untrusted(t api.Turn) bool {
	return t.Oram.Root == api.Digest{} && len(t.Oram.Stash) == 0 && len(t.Data) == 0
}

func isFault(f api.Fault, code api.Errno, level, place int) bool {
	return f.Code == code && slices.Equal(f.Marks, []api.Mark{{Level: level, Place: place}})
}

// places are the kinds and buckets that were seen, writes below nought.
func places(l []api.See) []int {
	var out []int
	for _, x := range l {
		if x.Kind == api.SeeWrite {
			out = append(out, -x.Bucket)
		} else {
			out = append(out, x.Bucket)
		}
	}
	return out
}

// echoed is what is seen where a leaf's path is echoed.
func echoed(c api.Config, d api.Dev, level, leaf int) []api.See {
	levels, _ := conf.Levels(c)
	path, _ := geo.Path(levels[level].High, leaf)
	var out []api.See
	for _, at := range path {
		out = append(out, api.See{Kind: api.SeeRead, Level: level, Bucket: at, Bytes: bytes.Clone(d.Levels[level][at-1])})
	}
	for _, at := range slices.Backward(path) {
		out = append(out, api.See{Kind: api.SeeWrite, Level: level, Bucket: at, Bytes: bytes.Clone(d.Levels[level][at-1])})
	}
	return out
}

func wrong(level, place int) api.Fault {
	return api.Fault{Code: api.ErrIntegrity, Marks: []api.Mark{{Level: level, Place: place}}}
}

// plainPath is a path's turn, as the chapter says, of what may be.
func plainPath(c api.Config, s api.Source, level int, o api.Oram, n uint64, d api.Dev, leaf int, op []api.Op) api.Turn {
	levels, _ := conf.Levels(c)
	l := levels[level]
	path, _ := geo.Path(l.High, leaf)
	bad := api.Turn{Next: n, Dev: d, Sees: echoed(c, d, level, leaf), Fault: wrong(level, 0)}
	var all [][]byte
	for _, at := range path {
		all = append(all, d.Levels[level][at-1])
	}
	buckets, row, e := tree.Read(s, l, level, o.Root, leaf, all)
	if e != api.OK {
		bad.Fault = wrong(level, path[row])
		return bad
	}
	blocks := map[int]api.Block{}
	for _, b := range append(slices.Clone(buckets), api.Bucket{Blocks: o.Stash}) {
		for _, x := range b.Blocks {
			if _, is := blocks[x.Id]; is {
				return bad
			}
			blocks[x.Id] = x
		}
	}
	out := api.Turn{Next: n + uint64(len(path)), Dev: dev.Twin(d), Sees: bad.Sees}
	for _, x := range op {
		b, is := blocks[x.Id]
		if is == x.New {
			return bad
		}
		if x.New {
			b.Data = make([]byte, l.Size)
		}
		out.Data = b.Data
		data := bytes.Clone(b.Data)
		copy(data[x.At:], x.Data)
		blocks[x.Id] = api.Block{Id: x.Id, Leaf: x.To, Data: data}
	}
	var together []api.Block
	for id := range l.Blocks {
		if b, is := blocks[id]; is {
			together = append(together, b)
		}
	}
	rows, rest, _ := evict.Fill(l, together, leaf)
	for i := range buckets {
		buckets[i].Blocks = rows[i]
	}
	written, root, _ := tree.Write(s, l, level, n, leaf, buckets)
	for i, b := range written {
		at := path[len(path)-1-i]
		out.Dev.Levels[level][at-1] = b
		out.Sees[len(path)+i].Bytes = b
	}
	out.Oram = api.Oram{Root: root, Stash: rest}
	return out
}

// plainAccess is an access, as the chapter says.
func plainAccess(c api.Config, s api.Source, level int, o api.Oram, n uint64, d api.Dev, leaf int, op []api.Op, tick uint64) api.Turn {
	levels, _ := conf.Levels(c)
	behind, _ := geo.Reverse(levels[level].High, tick)
	one := plainPath(c, s, level, o, n, d, leaf, op)
	if one.Fault.Code != api.OK {
		one.Sees = append(one.Sees, echoed(c, one.Dev, level, behind)...)
		return one
	}
	two := plainPath(c, s, level, one.Oram, one.Next, one.Dev, behind, nil)
	two.Sees = append(one.Sees, two.Sees...)
	if two.Fault.Code != api.OK {
		return two
	}
	two.Data = one.Data
	if many := len(two.Oram.Stash); many > c.Stash {
		two.Oram, two.Data = api.Oram{}, nil
		two.Fault = api.Fault{Code: api.ErrOverflow, Marks: []api.Mark{{Level: level, Place: many}}}
	}
	return two
}

// TestExample is that of the chapter.
func TestExample(t *testing.T) {
	c, s := two(), pad(73, 50)
	o, d, n := filled(t, c, s, 0, 0)
	one, e := oram.Access(c, s, 0, o, n, d, 0, []api.Op{{Id: 1, New: true, To: 0, Data: []byte{7}}}, 0)
	if e != api.OK || one.Fault.Code != api.OK || one.Next != 7 || !bytes.Equal(one.Data, []byte{0}) || len(one.Oram.Stash) != 0 {
		t.Fatal(one, e)
	}
	if got := places(one.Sees); !slices.Equal(got, []int{1, 2, -2, -1, 1, 2, -2, -1}) {
		t.Fatal(got)
	}
	two, e := oram.Access(c, s, 0, one.Oram, one.Next, one.Dev, 0, []api.Op{{Id: 1, To: 1}}, 1)
	if e != api.OK || two.Fault.Code != api.OK || !bytes.Equal(two.Data, []byte{7}) || two.Next != 11 {
		t.Fatal(two, e)
	}
	if got := places(two.Sees); !slices.Equal(got, []int{1, 2, -2, -1, 1, 3, -3, -1}) {
		t.Fatal(got)
	}
	bad, e := oram.Access(c, s, 0, one.Oram, one.Next, one.Dev, 0, []api.Op{{Id: 0}}, 0)
	if e != api.OK || !isFault(bad.Fault, api.ErrIntegrity, 0, 0) || !untrusted(bad) || bad.Next != 7 || !dev.Same(bad.Dev, one.Dev) {
		t.Fatal(bad, e)
	}
}

// TestAsPlain is P18.2 and P18.3: turns of all kinds are just those that the chapter's words make.
func TestAsPlain(t *testing.T) {
	r := rand.New(rand.NewSource(21))
	seen := map[api.Errno]int{}
	for range 120 {
		c := deep(1+r.Intn(2), 1+r.Intn(2))
		level := r.Intn(2)
		s, first := chacha(byte(r.Int())), r.Uint64()>>r.Intn(40)
		if r.Intn(3) == 0 {
			s, first = pad(112+r.Intn(2)*40, 400), uint64(r.Intn(4))
			r.Read(s.Pad)
		}
		levels, _ := conf.Levels(c)
		l := levels[level]
		if s.Kind == api.FromPad && s.Width < l.Width {
			continue
		}
		o, d, n := filled(t, c, s, level, first)
		where := map[int]int{}
		crowd := 1 + r.Intn(1<<l.High)*r.Intn(2)
		for tick := r.Uint64(); ; tick++ {
			leaf := r.Intn(1 << l.High)
			var op []api.Op
			if r.Intn(8) > 0 {
				x := api.Op{Id: r.Intn(l.Blocks), To: r.Intn(crowd), At: r.Intn(l.Size + 1)}
				x.Data = make([]byte, r.Intn(l.Size-x.At+1))
				r.Read(x.Data)
				was, is := where[x.Id]
				if x.New = !is; is {
					leaf = was
				}
				if r.Intn(60) == 0 {
					x.New = !x.New
				}
				where[x.Id] = x.To
				op = []api.Op{x}
			}
			if r.Intn(60) == 0 {
				d.Levels[level][r.Intn(2)][r.Intn(80)] ^= 1
			}
			kept := dev.Twin(d)
			single := plainPath(c, s, level, o, n, d, leaf, op)
			if got, e := oram.Path(c, s, level, o, n, d, leaf, op); e != api.OK || !oram.Same(got, single) {
				t.Fatal("Path", got.Fault, single.Fault, e)
			}
			want := plainAccess(c, s, level, o, n, d, leaf, op, tick)
			got, e := oram.Access(c, s, level, o, n, d, leaf, op, tick)
			if e != api.OK || !oram.Same(got, want) || !dev.Same(d, kept) {
				t.Fatal("Access", got.Fault, want.Fault, e)
			}
			if got.Fault.Code != api.OK && (!untrusted(got) || len(got.Sees) != 4*(l.High+1)) {
				t.Fatal(got)
			}
			seen[got.Fault.Code]++
			if got.Fault.Code != api.OK || len(where) > 0 && r.Intn(90) == 0 {
				break
			}
			o, d, n = got.Oram, got.Dev, got.Next
			if s.Kind == api.FromPad && n > 380 {
				break
			}
		}
	}
	if seen[api.OK] < 1000 || seen[api.ErrIntegrity] < 10 || seen[api.ErrOverflow] < 10 {
		t.Error("too few of a kind:", seen[api.OK], seen[api.ErrIntegrity], seen[api.ErrOverflow])
	}
}

// TestSecondGoesWrong is P18.2: what goes wrong at the tick's path has the first path's writes behind it.
func TestSecondGoesWrong(t *testing.T) {
	c, s := two(), chacha(1)
	o, d, n := filled(t, c, s, 0, 5)
	d.Levels[0][2][9] ^= 1
	got, e := oram.Access(c, s, 0, o, n, d, 0, []api.Op{{Id: 1, New: true, To: 0, Data: []byte{7}}}, 1)
	if e != api.OK || !isFault(got.Fault, api.ErrIntegrity, 0, 3) || !untrusted(got) || got.Next != n+2 || len(got.Sees) != 8 {
		t.Fatal(got, e)
	}
	first, _ := oram.Path(c, s, 0, o, n, d, 0, []api.Op{{Id: 1, New: true, To: 0, Data: []byte{7}}})
	if !dev.Same(got.Dev, first.Dev) || !oram.Same(api.Turn{Sees: got.Sees[:4]}, api.Turn{Sees: first.Sees}) {
		t.Fatal("the first path's writes are lost")
	}
	if got, e := oram.Access(c, s, 0, o, n, d, 1, nil, 0); e != api.OK || !isFault(got.Fault, api.ErrIntegrity, 0, 3) || got.Next != n || !dev.Same(got.Dev, d) || !slices.Equal(places(got.Sees), []int{1, 3, -3, -1, 1, 2, -2, -1}) {
		t.Fatal(got, e)
	}
}

// TestTwice is P18.2: an Id that stands twice, in a bucket and in the stash, or in two buckets.
func TestTwice(t *testing.T) {
	c, s := two(), chacha(2)
	o, d, n := filled(t, c, s, 0, 0)
	got, _ := oram.Access(c, s, 0, o, n, d, 0, []api.Op{{Id: 1, New: true, To: 0}}, 0)
	o, d, n = got.Oram, got.Dev, got.Next
	o.Stash = []api.Block{{Id: 1, Leaf: 0, Data: []byte{3}}}
	for _, op := range [][]api.Op{nil, {{Id: 1}}, {{Id: 0, New: true}}} {
		if got, e := oram.Path(c, s, 0, o, n, d, 0, op); e != api.OK || !isFault(got.Fault, api.ErrIntegrity, 0, 0) || !untrusted(got) || got.Next != n || !dev.Same(got.Dev, d) {
			t.Error(op, got, e)
		}
	}
	// Two buckets with block 0, sealed by hand.
	levels, _ := conf.Levels(c)
	one := api.Bucket{Blocks: []api.Block{{Id: 0, Leaf: 0, Data: []byte{1}}}}
	text, _ := bucket.Write(levels[0], one)
	leaf, _ := seal.Write(s, 90, text)
	one.Left, _ = seal.Sum(0, 2, leaf)
	text, _ = bucket.Write(levels[0], one)
	top, _ := seal.Write(s, 91, text)
	root, _ := seal.Sum(0, 1, top)
	d.Levels[0][0], d.Levels[0][1] = top, leaf
	if got, e := oram.Path(c, s, 0, api.Oram{Root: root}, n, d, 0, nil); e != api.OK || !isFault(got.Fault, api.ErrIntegrity, 0, 0) || !oram.Same(api.Turn{Sees: got.Sees}, api.Turn{Sees: echoed(c, d, 0, 0)}) {
		t.Error(got, e)
	}
}

// TestOverflow is P18.2: as many blocks as the config's Stash may stay, one more may not.
func TestOverflow(t *testing.T) {
	for most := 1; most <= 6; most++ {
		c, s := deep(1, most), chacha(3)
		o, d, n := filled(t, c, s, 0, 0)
		// All blocks are of leaf 0, and no path but the other half's is turned: only the root has room.
		many := 0
		for id := 0; ; id++ {
			got, e := oram.Access(c, s, 0, o, n, d, 15, []api.Op{{Id: id, New: true, To: 0}}, 1)
			if e != api.OK {
				t.Fatal(e)
			}
			if many = id; many > most {
				if !isFault(got.Fault, api.ErrOverflow, 0, most+1) || !untrusted(got) || got.Next != n+10 || dev.Same(got.Dev, d) {
					t.Error(most, got.Fault)
				}
				break
			}
			if got.Fault.Code != api.OK || len(got.Oram.Stash) != many {
				t.Fatal(most, id, got.Fault, len(got.Oram.Stash))
			}
			o, d, n = got.Oram, got.Dev, got.Next
		}
	}
}

// TestEchoAndHalt is P18.3.
func TestEchoAndHalt(t *testing.T) {
	c := deep(2, 3)
	d, _ := dev.New(c)
	r := rand.New(rand.NewSource(22))
	for _, level := range d.Levels {
		for _, b := range level {
			r.Read(b)
		}
	}
	for level, high := range []int{4, 2} {
		for leaf := range 1 << high {
			got, e := oram.Echo(c, level, 77, d, leaf)
			if e != api.OK || !oram.Same(got, api.Turn{Next: 77, Dev: d, Sees: echoed(c, d, level, leaf)}) {
				t.Error(level, leaf, e)
			}
			tick, _ := geo.Reverse(high, uint64(leaf))
			once := echoed(c, d, level, leaf)
			got, e = oram.Halt(c, level, math.MaxUint64, d, uint64(tick)+1<<40)
			if e != api.OK || !oram.Same(got, api.Turn{Next: math.MaxUint64, Dev: d, Sees: append(once, once...)}) {
				t.Error(level, leaf, e)
			}
		}
		for _, leaf := range []int{-1, 1 << high, math.MinInt, math.MaxInt} {
			if got, e := oram.Echo(c, level, 0, d, leaf); e != api.ErrArg || !isNone(got) {
				t.Error(level, leaf, e)
			}
		}
	}
	bad := c
	bad.Stash = 0
	other, _ := dev.New(two())
	for i, x := range []struct {
		c     api.Config
		d     api.Dev
		level int
	}{{bad, d, 0}, {c, other, 0}, {c, api.Dev{}, 0}, {c, d, 2}, {c, d, -1}, {c, d, math.MaxInt}} {
		if got, e := oram.Echo(x.c, x.level, 0, x.d, -1); e != api.ErrBad || !isNone(got) {
			t.Error("Echo", i, e)
		}
		if got, e := oram.Halt(x.c, x.level, 0, x.d, 0); e != api.ErrBad || !isNone(got) {
			t.Error("Halt", i, e)
		}
	}
}

// TestCheck is P18.1.
func TestCheck(t *testing.T) {
	c := deep(1, 1)
	bad := c
	bad.Fan = 9
	block := func(id int, size int) api.Block { return api.Block{Id: id, Data: make([]byte, size)} }
	for i, x := range []struct {
		c     api.Config
		level int
		s     []api.Block
		e     api.Errno
	}{
		{c, 0, nil, api.OK}, {c, 1, nil, api.OK}, {c, 0, []api.Block{block(15, 3)}, api.OK}, {c, 1, []api.Block{block(3, 16)}, api.OK}, {c, 0, []api.Block{block(2, 3), block(5, 3), block(9, 3)}, api.OK},
		{c, 2, nil, api.ErrBad}, {c, -1, nil, api.ErrBad}, {bad, 0, nil, api.ErrBad}, {c, 1, []api.Block{block(4, 16)}, api.ErrBad}, {c, 1, []api.Block{block(3, 3)}, api.ErrBad}, {c, 0, []api.Block{block(3, 3), block(3, 3)}, api.ErrBad}, {c, 0, []api.Block{block(3, 3), block(2, 3)}, api.ErrBad},
	} {
		if e := oram.Check(x.c, x.level, api.Oram{Root: api.Digest{1}, Stash: x.s}); e != x.e {
			t.Error(i, e)
		}
	}
}

// TestRefuses is P18.2: what is asked first, in its order.
func TestRefuses(t *testing.T) {
	c := two()
	bad := c
	bad.Top = 17
	d, _ := dev.New(c)
	other, _ := dev.New(deep(1, 1))
	one := []api.Op{{}}
	for i, x := range []struct {
		c     api.Config
		s     api.Source
		level int
		o     api.Oram
		n     uint64
		d     api.Dev
		leaf  int
		op    []api.Op
		path  api.Errno
		both  api.Errno
	}{
		{c, pad(73, 4), 0, api.Oram{}, 0, d, 0, nil, api.OK, api.OK},
		{c, pad(73, 4), 0, api.Oram{}, 0, d, 1, one, api.OK, api.OK},
		{bad, pad(73, 4), 0, api.Oram{}, 0, d, 9, nil, api.ErrBad, api.ErrBad},
		{c, api.Source{}, 0, api.Oram{}, 0, d, 9, nil, api.ErrBad, api.ErrBad},
		{c, pad(72, 0), 0, api.Oram{}, 0, other, 9, nil, api.ErrBad, api.ErrBad},
		{c, pad(72, 0), 1, api.Oram{}, 0, d, 9, nil, api.ErrBad, api.ErrBad},
		{c, pad(72, 0), -1, api.Oram{}, 0, d, 0, nil, api.ErrBad, api.ErrBad},
		{c, pad(72, 0), 0, api.Oram{Stash: []api.Block{{Id: 2, Data: []byte{1}}}}, 0, d, 9, nil, api.ErrBad, api.ErrBad},
		{c, pad(72, 0), 0, api.Oram{}, 0, d, 2, nil, api.ErrArg, api.ErrArg},
		{c, pad(72, 0), 0, api.Oram{}, 0, d, -1, nil, api.ErrArg, api.ErrArg},
		{c, pad(72, 0), 0, api.Oram{}, 0, d, 0, []api.Op{{}, {Id: 1}}, api.ErrArg, api.ErrArg},
		{c, pad(72, 0), 0, api.Oram{}, 0, d, 0, []api.Op{{Id: 2}}, api.ErrArg, api.ErrArg},
		{c, pad(72, 0), 0, api.Oram{}, 0, d, 0, []api.Op{{Id: -1, New: true}}, api.ErrArg, api.ErrArg},
		{c, pad(72, 0), 0, api.Oram{}, 0, d, 0, []api.Op{{To: 2}}, api.ErrArg, api.ErrArg},
		{c, pad(72, 0), 0, api.Oram{}, 0, d, 0, []api.Op{{To: -1}}, api.ErrArg, api.ErrArg},
		{c, pad(72, 0), 0, api.Oram{}, 0, d, 0, []api.Op{{At: -1, Data: []byte{1}}}, api.ErrArg, api.ErrArg},
		{c, pad(72, 0), 0, api.Oram{}, 0, d, 0, []api.Op{{At: 2}}, api.ErrArg, api.ErrArg},
		{c, pad(72, 0), 0, api.Oram{}, 0, d, 0, []api.Op{{At: 1, Data: []byte{1}}}, api.ErrArg, api.ErrArg},
		{c, pad(72, 0), 0, api.Oram{}, 0, d, 0, []api.Op{{At: math.MaxInt, Data: []byte{1}}}, api.ErrArg, api.ErrArg},
		{c, pad(72, 0), 0, api.Oram{}, 0, d, 0, []api.Op{{Data: []byte{1, 2}}}, api.ErrArg, api.ErrArg},
		{c, pad(73, 4), 0, api.Oram{}, 0, d, 0, []api.Op{{At: 1}}, api.OK, api.OK},
		{c, pad(73, 4), 0, api.Oram{}, 0, d, 0, []api.Op{{Id: 1, To: 1, Data: []byte{1}}}, api.OK, api.OK},
		{c, pad(72, 0), 0, api.Oram{}, 0, d, 0, nil, api.ErrMany, api.ErrMany},
		{c, pad(72, 9), 0, api.Oram{}, 0, d, 0, nil, api.ErrMany, api.ErrMany},
		{c, pad(73, 4), 0, api.Oram{}, 1, d, 0, nil, api.OK, api.ErrEntropy},
		{c, pad(73, 4), 0, api.Oram{}, 2, d, 0, nil, api.OK, api.ErrEntropy},
		{c, pad(73, 4), 0, api.Oram{}, 3, d, 0, nil, api.ErrEntropy, api.ErrEntropy},
		{c, pad(73, 4), 0, api.Oram{}, math.MaxUint64, d, 0, nil, api.ErrEntropy, api.ErrEntropy},
		{c, chacha(1), 0, api.Oram{}, math.MaxUint64 - 3, d, 0, nil, api.OK, api.OK},
		{c, chacha(1), 0, api.Oram{}, math.MaxUint64 - 2, d, 0, nil, api.OK, api.ErrEntropy},
		{c, chacha(1), 0, api.Oram{}, math.MaxUint64 - 1, d, 0, nil, api.OK, api.ErrEntropy},
		{c, chacha(1), 0, api.Oram{}, math.MaxUint64, d, 0, nil, api.ErrEntropy, api.ErrEntropy},
	} {
		got, e := oram.Path(x.c, x.s, x.level, x.o, x.n, x.d, x.leaf, x.op)
		if e != x.path || isNone(got) != (e != api.OK) {
			t.Error("Path", i, e)
		}
		got, e = oram.Access(x.c, x.s, x.level, x.o, x.n, x.d, x.leaf, x.op, 0)
		if e != x.both || isNone(got) != (e != api.OK) {
			t.Error("Access", i, e)
		}
	}
}

// TestEndOfNumbers is P18.2: the last numbers are used, and the next one goes on from 0.
func TestEndOfNumbers(t *testing.T) {
	c, s := two(), chacha(6)
	o, d, _ := filled(t, c, s, 0, 0)
	got, e := oram.Access(c, s, 0, o, math.MaxUint64-3, d, 0, nil, 3)
	if e != api.OK || got.Fault.Code != api.OK || got.Next != 0 {
		t.Error(got.Fault, got.Next, e)
	}
}

// TestSameAndTwin is P18.1, of any turns.
func TestSameAndTwin(t *testing.T) {
	first := func() api.Turn {
		return api.Turn{
			Oram: api.Oram{Root: api.Digest{1}, Stash: []api.Block{{Id: -2, Data: []byte{1}}}}, Next: 3, Dev: api.Dev{Levels: [][][]byte{{{1}}}},
			Sees: []api.See{{Kind: 9, Level: 1, Bucket: 2, Bytes: []byte{4}}}, Data: []byte{5}, Fault: api.Fault{Code: 99, Marks: []api.Mark{{Level: -1, Place: 5}}},
		}
	}
	for i, turn := range []func(*api.Turn){
		func(x *api.Turn) { x.Oram.Root[31]++ }, func(x *api.Turn) { x.Oram.Stash[0].Data[0]++ }, func(x *api.Turn) { x.Oram.Stash = nil }, func(x *api.Turn) { x.Next++ }, func(x *api.Turn) { x.Dev.Levels[0][0][0]++ },
		func(x *api.Turn) { x.Sees[0].Kind++ }, func(x *api.Turn) { x.Sees[0].Level++ }, func(x *api.Turn) { x.Sees[0].Bucket++ }, func(x *api.Turn) { x.Sees[0].Bytes[0]++ }, func(x *api.Turn) { x.Sees = append(x.Sees, api.See{}) },
		func(x *api.Turn) { x.Data[0]++ }, func(x *api.Turn) { x.Data = nil }, func(x *api.Turn) { x.Fault.Code++ }, func(x *api.Turn) { x.Fault.Marks[0].Level++ }, func(x *api.Turn) { x.Fault.Marks[0].Place++ }, func(x *api.Turn) { x.Fault.Marks = nil },
	} {
		a := first()
		b := oram.Twin(a)
		if !oram.Same(a, b) {
			t.Fatal("a twin is another one")
		}
		turn(&b)
		if oram.Same(a, b) || oram.Same(b, a) {
			t.Error("the same:", i)
		}
		if !oram.Same(a, first()) {
			t.Error("a twin shares memory:", i)
		}
	}
	if !isNone(oram.Twin(api.Turn{})) || !oram.Same(api.Turn{}, api.Turn{Sees: []api.See{}, Data: []byte{}, Fault: api.Fault{Marks: []api.Mark{}}, Oram: api.Oram{Stash: []api.Block{}}}) {
		t.Error("none and no element aren't the same")
	}
}

// TestMemory is P18.3.
func TestMemory(t *testing.T) {
	c, s := deep(1, 9), chacha(4)
	o, d, n := filled(t, c, s, 0, 0)
	for id := range 4 {
		got, _ := oram.Access(c, s, 0, o, n, d, 15, []api.Op{{Id: id, New: true, To: 0, Data: []byte{byte(id), 1, 2}}}, 1)
		o, d, n = got.Oram, got.Dev, got.Next
	}
	op := []api.Op{{Id: 1, To: 3, Data: []byte{9}}}
	before := api.Turn{Oram: o, Dev: d}
	kept := oram.Twin(before)
	want, _ := oram.Access(c, s, 0, o, n, d, 0, op, 1)
	wantKept := oram.Twin(want)
	wipe := func(x api.Turn) {
		for _, b := range x.Oram.Stash {
			clear(b.Data)
		}
		for _, level := range x.Dev.Levels {
			for _, b := range level {
				clear(b)
			}
		}
		clear(x.Data)
		clear(x.Oram.Stash)
	}
	wipe(want)
	if !oram.Same(before, kept) || op[0].Data[0] != 9 || !oram.Same(api.Turn{Sees: want.Sees}, api.Turn{Sees: wantKept.Sees}) {
		t.Error("memory is shared")
	}
	for _, x := range want.Sees {
		clear(x.Bytes)
	}
	for _, f := range []func() (api.Turn, api.Errno){
		func() (api.Turn, api.Errno) { return oram.Path(c, s, 0, o, n, d, 0, nil) },
		func() (api.Turn, api.Errno) { return oram.Echo(c, 0, n, d, 0) },
		func() (api.Turn, api.Errno) { return oram.Halt(c, 0, n, d, 0) },
		func() (api.Turn, api.Errno) { return oram.Access(c, s, 0, api.Oram{}, n, d, 0, nil, 0) },
	} {
		one, _ := f()
		for _, x := range one.Sees {
			clear(x.Bytes)
		}
		wipe(one)
		two, e := f()
		if e != api.OK || len(two.Dev.Levels) != 2 || !oram.Same(before, kept) {
			t.Error("memory is shared")
		}
	}
}

// TestFollows is P18.4: no block is lost, or doubled; each stands in its place; and what is read and written hangs on leaf and tick alone.
func TestFollows(t *testing.T) {
	r := rand.New(rand.NewSource(23))
	for range 20 {
		c, s := deep(2, 16), chacha(byte(r.Int()))
		o, d, n := filled(t, c, s, 0, 0)
		levels, _ := conf.Levels(c)
		has, where := map[int]string{}, map[int]int{}
		for tick := range uint64(60) {
			id, to := r.Intn(16), r.Intn(16)
			data := []byte{byte(r.Int()), byte(r.Int()), byte(r.Int())}
			_, is := where[id]
			leaf := r.Intn(16)
			if is {
				leaf = where[id]
			}
			got, e := oram.Access(c, s, 0, o, n, d, leaf, []api.Op{{Id: id, New: !is, To: to, Data: data}}, tick)
			if e != api.OK || got.Fault.Code != api.OK {
				t.Fatal(got.Fault, e)
			}
			if was := has[id]; string(got.Data) != was && (was != "" || !bytes.Equal(got.Data, make([]byte, 3))) {
				t.Fatal(id, got.Data, was)
			}
			has[id], where[id] = string(data), to
			behind, _ := geo.Reverse(4, tick)
			want := append(places(echoed(c, d, 0, leaf)), places(echoed(c, d, 0, behind))...)
			if !slices.Equal(places(got.Sees), want) {
				t.Fatal("another path", places(got.Sees), want)
			}
			o, d, n = got.Oram, got.Dev, got.Next
			buckets, _, e := whole.All(s, levels[0], 0, o.Root, d.Levels[0])
			if e != api.OK || whole.Check(levels[0], buckets) != api.OK {
				t.Fatal("the tree is broken", e)
			}
			all := o.Stash
			for _, b := range buckets {
				if all, e = stash.Add(levels[0], all, b.Blocks); e != api.OK {
					t.Fatal("a block is doubled")
				}
			}
			if len(all) != len(has) {
				t.Fatal("a block is lost", len(all), len(has))
			}
			for _, b := range all {
				if string(b.Data) != has[b.Id] || b.Leaf != where[b.Id] {
					t.Fatal(b)
				}
			}
		}
	}
}
