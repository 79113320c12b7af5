package whole_test

import (
	"bytes"
	"crypto/sha256"
	"math"
	"math/rand"
	"slices"
	"testing"

	"thimblerig/api"
	"thimblerig/bucket"
	"thimblerig/geo"
	"thimblerig/seal"
	"thimblerig/tree"
	"thimblerig/whole"
)

// small is the level of the chapter's example.
func small() api.Level {
	return api.Level{Blocks: 2, Size: 1, High: 1, Width: 73}
}

func pad(width, many int) api.Source {
	return api.Source{Kind: api.FromPad, Pad: make([]byte, width*many), Width: width}
}

func chacha(first byte) api.Source {
	return api.Source{Kind: api.FromChacha, Key: api.Key{first}}
}

// hashed is the digest of a bucket's bytes, by crypto/sha256.
func hashed(level, at int, b []byte) api.Digest {
	return sha256.Sum256(append([]byte{byte(level), byte(at), 0, 0, 0}, b...))
}

func reversed(all [][]byte) [][]byte {
	out := slices.Clone(all)
	slices.Reverse(out)
	return out
}

// random is a level of any kind, and a source that covers its tree from n on.
func random(r *rand.Rand) (s api.Source, l api.Level, level int, n uint64) {
	high, size := 1+r.Intn(6), 1+r.Intn(6)
	l = api.Level{Blocks: 1 + r.Intn(1<<high), Size: size, High: high, Width: (1+r.Intn(4))*(8+size) + 64}
	level = r.Intn(4)
	if r.Intn(2) == 0 {
		return chacha(byte(r.Int())), l, level, r.Uint64() >> (1 + r.Intn(60))
	}
	n = uint64(r.Intn(5))
	s = pad(l.Width+r.Intn(3), 2<<high-1+int(n))
	r.Read(s.Pad)
	return s, l, level, n
}

// planted is a whole tree's bytes with some buckets' blocks, the root's first, by seal and bucket alone.
func planted(s api.Source, l api.Level, level int, n uint64, buckets []api.Bucket) (all [][]byte, root api.Digest) {
	all = make([][]byte, len(buckets))
	for at := len(buckets); at >= 1; at-- {
		b := &buckets[at-1]
		if 2*at < len(buckets) {
			b.Left = hashed(level, 2*at, all[2*at-1])
			b.Right = hashed(level, 2*at+1, all[2*at])
		}
		text, _ := bucket.Write(l, *b)
		all[at-1], _ = seal.Write(s, n, text)
		n++
	}
	return all, hashed(level, 1, all[0])
}

// TestExample is that of the chapter.
func TestExample(t *testing.T) {
	all, root, e := whole.Fill(pad(73, 3), small(), 0, 0)
	if e != api.OK || len(all) != 3 {
		t.Fatal(all, e)
	}
	last := make([]byte, 81)
	other := append([]byte{1}, last[1:]...)
	left, right := hashed(0, 2, other), hashed(0, 3, last)
	top := slices.Concat([]byte{2}, make([]byte, 16), left[:], right[:])
	if !bytes.Equal(all[0], last) || !bytes.Equal(all[1], other) || !bytes.Equal(all[2], top) || root != hashed(0, 1, top) {
		t.Fatal(all)
	}
	up := reversed(all)
	out, at, e := whole.All(pad(73, 3), small(), 0, root, up)
	if e != api.OK || at != 0 || !slices.EqualFunc(out, []api.Bucket{{Left: left, Right: right}, {}, {}}, bucket.Same) {
		t.Fatal(out, at, e)
	}
	up[2][80] ^= 1
	if out, at, e := whole.All(pad(73, 3), small(), 0, root, up); e != api.ErrIntegrity || at != 3 || len(out) != 0 {
		t.Fatal(out, at, e)
	}
	buckets := []api.Bucket{{}, {}, {Blocks: []api.Block{{Id: 0, Leaf: 0, Data: []byte{1}}}}}
	if e := whole.Check(small(), buckets); e != api.ErrBad {
		t.Fatal(e)
	}
	buckets[2].Blocks[0].Leaf = 1
	if e := whole.Check(small(), buckets); e != api.OK {
		t.Fatal(e)
	}
}

// TestFillAndAll is P15.1, P15.2 and P15.4, of trees of all kinds.
func TestFillAndAll(t *testing.T) {
	r := rand.New(rand.NewSource(17))
	for range 100 {
		s, l, level, n := random(r)
		all, root, e := whole.Fill(s, l, level, n)
		empty := make([]api.Bucket, 2<<l.High-1)
		want, digest := planted(s, l, level, n, empty)
		up := reversed(all)
		if e != api.OK || root != digest || !slices.EqualFunc(up, want, bytes.Equal) {
			t.Fatal(l, e)
		}
		out, at, e := whole.All(s, l, level, root, up)
		if e != api.OK || at != 0 || !slices.EqualFunc(out, empty, bucket.Same) || whole.Check(l, out) != api.OK {
			t.Fatal(l, at, e)
		}
		for _, b := range out {
			if len(b.Blocks) != 0 {
				t.Fatal("a filled tree has blocks")
			}
		}
		leaf := r.Intn(1 << l.High)
		path, _ := geo.Path(l.High, leaf)
		var texts [][]byte
		for _, at := range path {
			texts = append(texts, up[at-1])
		}
		if _, _, e := tree.Read(s, l, level, root, leaf, texts); e != api.OK {
			t.Fatal("a path of a whole tree is refused", e)
		}
		hit := r.Intn(len(up))
		up[hit][r.Intn(len(up[hit]))] ^= byte(1 << r.Intn(8))
		if out, at, e := whole.All(s, l, level, root, up); e != api.ErrIntegrity || at != hit+1 || len(out) != 0 {
			t.Fatal(hit, at, e)
		}
	}
}

// TestAllOfBlocks is P15.2: buckets with blocks, whatever their places, and texts that are no bucket's.
func TestAllOfBlocks(t *testing.T) {
	r := rand.New(rand.NewSource(18))
	for range 100 {
		s, l, level, n := random(r)
		buckets := make([]api.Bucket, 2<<l.High-1)
		for range 5 {
			b := &buckets[r.Intn(len(buckets))]
			b.Blocks = []api.Block{{Id: r.Intn(l.Blocks), Leaf: r.Intn(1 << l.High), Data: make([]byte, l.Size)}}
		}
		all, root := planted(s, l, level, n, buckets)
		out, at, e := whole.All(s, l, level, root, all)
		if e != api.OK || at != 0 || !slices.EqualFunc(out, buckets, bucket.Same) {
			t.Fatal(at, e)
		}
		for i := range all {
			swapped := slices.Clone(all)
			other := r.Intn(len(all))
			swapped[i], swapped[other] = all[other], all[i]
			if _, at, e := whole.All(s, l, level, root, swapped); i != other && (e != api.ErrIntegrity || at != min(i, other)+1) {
				t.Fatal(i, other, at, e)
			}
		}
	}
	leaf := make([]byte, 81)
	bad := append(make([]byte, 8), append([]byte{0, 0, 0, 0, 1}, make([]byte, 68)...)...)
	left, right := hashed(0, 2, leaf), hashed(0, 3, bad)
	top := slices.Concat(make([]byte, 17), left[:], right[:])
	if out, at, e := whole.All(pad(73, 1), small(), 0, hashed(0, 1, top), [][]byte{top, leaf, bad}); e != api.ErrIntegrity || at != 3 || len(out) != 0 {
		t.Error("no bucket's text", at, e)
	}
	far := append([]byte{1}, make([]byte, 80)...)
	if out, at, e := whole.All(pad(73, 1), small(), 0, hashed(0, 1, far), [][]byte{far, leaf, leaf}); e != api.ErrIntegrity || at != 1 || len(out) != 0 {
		t.Error("a number without a stream", at, e)
	}
	if out, at, e := whole.All(pad(72, 1), small(), 0, hashed(0, 1, top), [][]byte{top, leaf, bad}); e != api.ErrIntegrity || at != 1 || len(out) != 0 {
		t.Error("too short a stream", at, e)
	}
}

// TestAsked is P15.1 and P15.2: what is asked first, in its order.
func TestAsked(t *testing.T) {
	bad := small()
	bad.Width = 72
	texts := [][]byte{make([]byte, 81), make([]byte, 81), make([]byte, 81)}
	for i, x := range []struct {
		s     api.Source
		l     api.Level
		level int
		e     api.Errno
	}{
		{api.Source{}, small(), 0, api.ErrBad}, {api.Source{}, small(), 4, api.ErrBad}, {pad(73, 3), bad, 0, api.ErrBad}, {pad(73, 3), bad, -1, api.ErrBad}, {pad(73, 3), api.Level{}, 0, api.ErrBad},
		{pad(73, 3), small(), 4, api.ErrArg}, {pad(73, 3), small(), -1, api.ErrArg}, {pad(72, 0), small(), math.MaxInt, api.ErrArg}, {pad(72, 0), small(), math.MinInt, api.ErrArg},
	} {
		if all, root, e := whole.Fill(x.s, x.l, x.level, 0); e != x.e || len(all) != 0 || root != (api.Digest{}) {
			t.Error("Fill", i, e)
		}
		if out, at, e := whole.All(x.s, x.l, x.level, api.Digest{}, texts); e != x.e || at != 0 || len(out) != 0 {
			t.Error("All", i, e)
		}
	}
	for i, all := range [][][]byte{nil, texts[:2], append(slices.Clone(texts), texts[0]), {texts[0], texts[0], texts[0][:80]}, {append(slices.Clone(texts[0]), 0), texts[1], texts[2]}, {nil, nil, nil}} {
		if out, at, e := whole.All(pad(73, 3), small(), 0, api.Digest{}, all); e != api.ErrArg || at != 0 || len(out) != 0 {
			t.Error("bytes", i, e)
		}
	}
	for i, x := range []struct {
		s api.Source
		n uint64
		e api.Errno
	}{
		{pad(73, 3), 0, api.OK}, {pad(74, 5), 2, api.OK}, {chacha(1), math.MaxUint64 - 2, api.OK},
		{pad(72, 3), 0, api.ErrMany}, {pad(72, 3), 9, api.ErrMany}, {pad(1, 0), 0, api.ErrMany},
		{pad(73, 2), 0, api.ErrEntropy}, {pad(73, 3), 1, api.ErrEntropy}, {pad(73, 0), 0, api.ErrEntropy}, {pad(73, 3), math.MaxUint64, api.ErrEntropy}, {chacha(1), math.MaxUint64 - 1, api.ErrEntropy},
	} {
		all, root, e := whole.Fill(x.s, small(), 3, x.n)
		if e != x.e || (e == api.OK) != (len(all) == 3) || (e == api.OK) != (root != api.Digest{}) {
			t.Error("numbers", i, e)
		}
	}
}

// TestCheck is P15.3: buckets in their places, and not.
func TestCheck(t *testing.T) {
	l := api.Level{Blocks: 4, Size: 1, High: 2, Width: 82}
	block := func(id, leaf int) api.Block { return api.Block{Id: id, Leaf: leaf, Data: []byte{1}} }
	for at := 1; at <= 7; at++ {
		for leaf := range 4 {
			all := make([]api.Bucket, 7)
			all[at-1].Blocks = []api.Block{block(3, leaf)}
			want := api.ErrBad
			if path, _ := geo.Path(2, leaf); slices.Contains(path, at) {
				want = api.OK
			}
			if e := whole.Check(l, all); e != want {
				t.Error(at, leaf, e)
			}
			all[at-1].Blocks = []api.Block{block(0, (at%4)/2*2), block(3, leaf)}
			if whole.Check(l, all) == api.OK && want != api.OK {
				t.Error("the second block of a bucket", at, leaf)
			}
		}
	}
	for i, x := range []struct {
		l    api.Level
		many int
		put  map[int][]api.Block
		e    api.Errno
	}{
		{l, 7, nil, api.OK}, {l, 6, nil, api.ErrArg}, {l, 8, nil, api.ErrArg}, {l, 0, nil, api.ErrArg}, {api.Level{}, 7, nil, api.ErrBad}, {api.Level{}, 0, nil, api.ErrBad},
		{l, 7, map[int][]api.Block{1: {block(0, 0), block(1, 3)}, 2: {block(2, 0)}, 7: {block(3, 3)}}, api.OK},
		{l, 7, map[int][]api.Block{1: {block(0, 0)}, 2: {block(0, 0)}}, api.ErrBad},
		{l, 7, map[int][]api.Block{1: {block(0, 0), block(0, 0)}}, api.ErrBad},
		{l, 7, map[int][]api.Block{1: {block(0, 0), block(1, 0), block(2, 0)}}, api.ErrBad},
		{l, 7, map[int][]api.Block{1: {block(4, 0)}}, api.ErrBad}, {l, 7, map[int][]api.Block{1: {block(0, 4)}}, api.ErrBad}, {l, 7, map[int][]api.Block{1: {block(0, -1)}}, api.ErrBad}, {l, 7, map[int][]api.Block{7: {{Id: 0, Leaf: 3}}}, api.ErrBad},
	} {
		all := make([]api.Bucket, x.many)
		for at, blocks := range x.put {
			all[at-1].Blocks = blocks
		}
		if e := whole.Check(x.l, all); e != x.e {
			t.Error(i, e)
		}
	}
}

// TestMemory is P15.3.
func TestMemory(t *testing.T) {
	s := pad(73, 3)
	buckets := []api.Bucket{{Blocks: []api.Block{{Id: 1, Leaf: 1, Data: []byte{7}}}}, {}, {}}
	all, root := planted(s, small(), 2, 0, buckets)
	out, _, _ := whole.All(s, small(), 2, root, all)
	out[0].Blocks[0].Data[0] = 9
	if out, at, e := whole.All(s, small(), 2, root, all); e != api.OK || at != 0 || out[0].Blocks[0].Data[0] != 7 {
		t.Error("a bucket shares its bytes", at, e)
	}
	filled, _, _ := whole.Fill(s, small(), 0, 0)
	for _, b := range filled {
		clear(append(b, 1, 2, 3))
	}
	if !bytes.Equal(s.Pad, make([]byte, 219)) {
		t.Error("turned the pad")
	}
	whole.Check(small(), buckets)
	if buckets[0].Blocks[0].Data[0] != 7 || buckets[0].Blocks[0].Id != 1 {
		t.Error("Check turns buckets")
	}
}
