package tree_test

import (
	"bytes"
	"crypto/sha256"
	"math"
	"math/rand"
	"slices"
	"testing"

	"thimblerig/api"
	"thimblerig/bucket"
	"thimblerig/geo"
	"thimblerig/seal"
	"thimblerig/tree"
)

// small is the level of the chapter's example.
func small() api.Level {
	return api.Level{Blocks: 2, Size: 1, High: 1, Width: 73}
}

func pad(width, many int) api.Source {
	return api.Source{Kind: api.FromPad, Pad: make([]byte, width*many), Width: width}
}

func chacha(first byte) api.Source {
	return api.Source{Kind: api.FromChacha, Key: api.Key{first}}
}

// hashed is the digest of a bucket's bytes, by crypto/sha256.
func hashed(level, at int, b []byte) api.Digest {
	return sha256.Sum256(append([]byte{byte(level), byte(at), 0, 0, 0}, b...))
}

// reversed is a list, its last one first.
func reversed(all [][]byte) [][]byte {
	out := slices.Clone(all)
	slices.Reverse(out)
	return out
}

func sameBuckets(a, b []api.Bucket) bool {
	return slices.EqualFunc(a, b, bucket.Same)
}

// TestExample is that of the chapter.
func TestExample(t *testing.T) {
	all, root, e := tree.Write(pad(73, 2), small(), 0, 0, 1, make([]api.Bucket, 2))
	if e != api.OK || len(all) != 2 || !bytes.Equal(all[0], make([]byte, 81)) {
		t.Fatal(all, e)
	}
	leaf := hashed(0, 3, make([]byte, 81))
	want := slices.Concat([]byte{1}, make([]byte, 7), make([]byte, 9), make([]byte, 32), leaf[:])
	if !bytes.Equal(all[1], want) || root != hashed(0, 1, want) {
		t.Fatal(all[1], root)
	}
	out, row, e := tree.Read(pad(73, 2), small(), 0, root, 1, reversed(all))
	if e != api.OK || row != 0 || !sameBuckets(out, []api.Bucket{{Right: leaf}, {}}) {
		t.Fatal(out, row, e)
	}
	all[0][50] ^= 4
	if out, row, e := tree.Read(pad(73, 2), small(), 0, root, 1, reversed(all)); e != api.ErrIntegrity || row != 1 || len(out) != 0 {
		t.Fatal(out, row, e)
	}
}

// random is a level, and a path of it with blocks of all kinds.
func random(r *rand.Rand) (l api.Level, level, leaf int, path []api.Bucket) {
	high, size, slots := 1+r.Intn(6), 1+r.Intn(6), 1+r.Intn(4)
	l = api.Level{Blocks: 1 + r.Intn(1<<high), Size: size, High: high, Width: slots*(8+size) + 64}
	ids := r.Perm(l.Blocks)
	for range high + 1 {
		var b api.Bucket
		r.Read(b.Left[:])
		r.Read(b.Right[:])
		for n := r.Intn(slots + 1); n > 0 && len(ids) > 0; n-- {
			data := make([]byte, size)
			r.Read(data)
			b.Blocks = append(b.Blocks, api.Block{Id: ids[0], Leaf: r.Intn(1 << high), Data: data})
			ids = ids[1:]
		}
		path = append(path, b)
	}
	return l, r.Intn(4), r.Intn(1 << high), path
}

// plain is a path, written as the chapter says, by seal and bucket alone; and the path as it is read then.
func plain(s api.Source, l api.Level, level int, n uint64, leaf int, path []api.Bucket) (all [][]byte, root api.Digest, read []api.Bucket) {
	read = make([]api.Bucket, len(path))
	for row := l.High; row >= 0; row-- {
		at := (1<<l.High + leaf) >> (l.High - row)
		b := path[row]
		if row == l.High {
			b.Left, b.Right = api.Digest{}, api.Digest{}
		} else if (1<<l.High+leaf)>>(l.High-row-1)%2 == 0 {
			b.Left = root
		} else {
			b.Right = root
		}
		text, _ := bucket.Write(l, b)
		sealed, _ := seal.Write(s, n+uint64(l.High-row), text)
		all = append(all, sealed)
		root = hashed(level, at, sealed)
		read[row] = b
	}
	return all, root, read
}

// TestWriteAndRead is P14.1, P14.2 and P14.4, of paths of all kinds.
func TestWriteAndRead(t *testing.T) {
	r := rand.New(rand.NewSource(16))
	for range 300 {
		l, level, leaf, path := random(r)
		s, n := chacha(byte(r.Int())), r.Uint64()>>r.Intn(60)
		if r.Intn(2) == 0 {
			s, n = pad(l.Width+r.Intn(3), 20), uint64(r.Intn(20-l.High))
			r.Read(s.Pad)
		}
		kept := make([]api.Bucket, len(path))
		for i := range path {
			kept[i] = bucket.Twin(path[i])
		}
		all, root, e := tree.Write(s, l, level, n, leaf, path)
		want, digest, read := plain(s, l, level, n, leaf, path)
		if e != api.OK || root != digest || !slices.EqualFunc(all, want, bytes.Equal) || !sameBuckets(path, kept) {
			t.Fatal(l, level, leaf, e)
		}
		up := reversed(all)
		out, row, e := tree.Read(s, l, level, root, leaf, up)
		if e != api.OK || row != 0 || !sameBuckets(out, read) {
			t.Fatal(out, row, e)
		}
		at := r.Intn(len(up))
		place := r.Intn(len(up[at]))
		up[at][place] ^= byte(1 << r.Intn(8))
		if out, row, e := tree.Read(s, l, level, root, leaf, up); e != api.ErrIntegrity || row != at || len(out) != 0 {
			t.Fatal(at, out, row, e)
		}
	}
}

// TestOthers is P14.1: bytes of another leaf, level, or root can't be checked.
func TestOthers(t *testing.T) {
	l := api.Level{Blocks: 8, Size: 1, High: 3, Width: 73}
	s := chacha(1)
	all, root, _ := tree.Write(s, l, 1, 5, 2, make([]api.Bucket, 4))
	up := reversed(all)
	for leaf := range 8 {
		deep, _ := geo.Deep(3, 2, leaf)
		out, row, e := tree.Read(s, l, 1, root, leaf, up)
		if leaf == 2 && (e != api.OK || row != 0) {
			t.Error(row, e)
		}
		// The side where the paths part has noughts told.
		if leaf != 2 && (e != api.ErrIntegrity || row != deep+1 || len(out) != 0) {
			t.Error(leaf, row, e)
		}
	}
	for i, x := range []struct {
		level int
		root  api.Digest
		s     api.Source
		all   [][]byte
		row   int
	}{
		{0, root, s, up, 0}, {2, root, s, up, 0}, {1, api.Digest{}, s, up, 0}, {1, api.Digest{31: root[31] ^ 1}, s, up, 0}, {1, root, pad(80, 8), up, 0}, {1, root, pad(73, 20), up, 0}, {1, root, pad(72, 20), up, 0},
		{1, root, s, [][]byte{up[0], up[2], up[1], up[3]}, 1}, {1, root, s, [][]byte{up[0], up[1], up[2], up[2]}, 3},
	} {
		if out, row, e := tree.Read(x.s, l, x.level, x.root, 2, x.all); e != api.ErrIntegrity || row != x.row || len(out) != 0 {
			t.Error(i, row, e)
		}
	}
}

// TestUnreadable is P14.1: a row whose digest holds, but which has no bucket's text, or no stream.
func TestUnreadable(t *testing.T) {
	l, s := small(), pad(73, 3)
	for i, text := range [][]byte{
		append([]byte{3}, make([]byte, 72)...), append([]byte{0, 0, 0, 0, 1}, make([]byte, 68)...), append([]byte{1, 0, 0, 0, 2}, make([]byte, 68)...),
	} {
		leaf := append(make([]byte, 8), text...)
		digest := hashed(0, 2, leaf)
		top := slices.Concat([]byte{2}, make([]byte, 7), make([]byte, 9), digest[:], make([]byte, 32))
		if out, row, e := tree.Read(s, l, 0, hashed(0, 1, top), 0, [][]byte{top, leaf}); e != api.ErrIntegrity || row != 1 || len(out) != 0 {
			t.Error(i, out, row, e)
		}
		if out, row, e := tree.Read(s, l, 0, hashed(0, 1, leaf), 0, [][]byte{leaf, leaf}); e != api.ErrIntegrity || row != 0 || len(out) != 0 {
			t.Error(i, out, row, e)
		}
	}
	late := append([]byte{3}, make([]byte, 80)...)
	if out, row, e := tree.Read(s, l, 0, hashed(0, 1, late), 0, [][]byte{late, late}); e != api.ErrIntegrity || row != 0 || len(out) != 0 {
		t.Error("a number without a stream:", out, row, e)
	}
}

// TestAsked is P14.1 and P14.2: what is asked first, in its order.
func TestAsked(t *testing.T) {
	bad := small()
	bad.Width = 72
	texts := [][]byte{make([]byte, 81), make([]byte, 81)}
	two := make([]api.Bucket, 2)
	for i, x := range []struct {
		s           api.Source
		l           api.Level
		level, leaf int
		e           api.Errno
	}{
		{api.Source{}, small(), 0, 0, api.ErrBad}, {pad(0, 0), small(), 4, 9, api.ErrBad}, {pad(73, 2), bad, 0, 0, api.ErrBad}, {pad(73, 2), bad, 9, -1, api.ErrBad}, {pad(73, 2), api.Level{}, 0, 0, api.ErrBad},
		{pad(73, 2), small(), 4, 0, api.ErrArg}, {pad(73, 2), small(), -1, 0, api.ErrArg}, {pad(73, 2), small(), 0, 2, api.ErrArg}, {pad(73, 2), small(), 0, -1, api.ErrArg}, {pad(73, 2), small(), math.MaxInt, math.MaxInt, api.ErrArg}, {pad(73, 2), small(), 0, math.MinInt, api.ErrArg},
	} {
		if out, row, e := tree.Read(x.s, x.l, x.level, api.Digest{}, x.leaf, texts); e != x.e || row != 0 || len(out) != 0 {
			t.Error("Read", i, e)
		}
		if all, root, e := tree.Write(x.s, x.l, x.level, 0, x.leaf, two); e != x.e || len(all) != 0 || root != (api.Digest{}) {
			t.Error("Write", i, e)
		}
	}
	for i, all := range [][][]byte{nil, texts[:1], append(texts, texts[0]), {texts[0], texts[0][:80]}, {append(texts[0], 0), texts[1]}, {nil, nil}} {
		if out, row, e := tree.Read(pad(73, 2), small(), 0, api.Digest{}, 0, all); e != api.ErrArg || row != 0 || len(out) != 0 {
			t.Error("bytes", i, e)
		}
	}
	for _, n := range []int{0, 1, 3} {
		if all, root, e := tree.Write(pad(73, 2), small(), 0, 0, 0, make([]api.Bucket, n)); e != api.ErrArg || len(all) != 0 || root != (api.Digest{}) {
			t.Error("buckets", n, e)
		}
	}
	for level := range 4 {
		if _, _, e := tree.Write(pad(73, 2), small(), level, 0, 1, two); e != api.OK {
			t.Error(level, e)
		}
	}
}

// TestWriteRefuses is P14.2: buckets, then a stream's length, then how many numbers.
func TestWriteRefuses(t *testing.T) {
	one := func(id, leaf int) api.Bucket {
		return api.Bucket{Blocks: []api.Block{{Id: id, Leaf: leaf, Data: []byte{1}}}}
	}
	wide := api.Level{Blocks: 2, Size: 1, High: 1, Width: 82}
	for i, x := range []struct {
		s    api.Source
		l    api.Level
		n    uint64
		path []api.Bucket
		e    api.Errno
	}{
		{pad(73, 2), small(), 0, []api.Bucket{one(0, 0), one(1, 1)}, api.OK},
		{pad(73, 2), small(), 0, []api.Bucket{one(0, 0), one(0, 1)}, api.ErrBad},
		{pad(73, 2), small(), 0, []api.Bucket{one(2, 0), one(1, 1)}, api.ErrBad},
		{pad(73, 2), small(), 0, []api.Bucket{one(0, 0), one(1, 2)}, api.ErrBad},
		{pad(73, 2), small(), 0, []api.Bucket{{Blocks: []api.Block{one(0, 0).Blocks[0], one(1, 1).Blocks[0]}}, {}}, api.ErrBad},
		{pad(82, 2), wide, 0, []api.Bucket{{Blocks: []api.Block{one(0, 0).Blocks[0], one(0, 1).Blocks[0]}}, {}}, api.ErrBad},
		{pad(72, 2), small(), 0, []api.Bucket{one(2, 0), one(1, 1)}, api.ErrBad},
		{pad(72, 2), small(), 0, []api.Bucket{{}, {}}, api.ErrMany},
		{pad(72, 2), small(), 9, []api.Bucket{{}, {}}, api.ErrMany},
		{pad(81, 2), wide, 0, []api.Bucket{{}, {}}, api.ErrMany},
		{pad(82, 2), wide, 0, []api.Bucket{{}, {}}, api.OK},
		{pad(73, 2), small(), 1, []api.Bucket{{}, {}}, api.ErrEntropy},
		{pad(73, 2), small(), 2, []api.Bucket{{}, {}}, api.ErrEntropy},
		{pad(73, 1), small(), 0, []api.Bucket{{}, {}}, api.ErrEntropy},
		{pad(73, 2), small(), math.MaxUint64, []api.Bucket{{}, {}}, api.ErrEntropy},
		{chacha(1), small(), math.MaxUint64 - 1, []api.Bucket{{}, {}}, api.OK},
		{chacha(1), small(), math.MaxUint64, []api.Bucket{{}, {}}, api.ErrEntropy},
	} {
		all, root, e := tree.Write(x.s, x.l, 0, x.n, 0, x.path)
		if e != x.e || (e == api.OK) != (len(all) == 2) || (e == api.OK) != (root != api.Digest{}) {
			t.Error(i, len(all), e)
		}
	}
}

// TestMemory is P14.3.
func TestMemory(t *testing.T) {
	path := []api.Bucket{{Blocks: []api.Block{{Id: 1, Leaf: 1, Data: []byte{7}}}, Left: api.Digest{5}}, {Left: api.Digest{6}}}
	s := pad(73, 2)
	all, root, _ := tree.Write(s, small(), 0, 0, 1, path)
	up := reversed(all)
	out, _, _ := tree.Read(s, small(), 0, root, 1, up)
	clear(up[0])
	if out[0].Blocks[0].Data[0] != 7 || out[0].Left != (api.Digest{5}) {
		t.Error("a bucket shares its bytes")
	}
	out[0].Blocks[0].Data[0] = 8
	if path[0].Blocks[0].Data[0] != 7 || path[0].Right != (api.Digest{}) || path[1].Left != (api.Digest{6}) || !bytes.Equal(s.Pad, make([]byte, 146)) {
		t.Error("turned what was handed in")
	}
}
