package bucket_test

import (
	"bytes"
	"math/rand"
	"testing"

	"thimblerig/api"
	"thimblerig/bucket"
)

// eight is the level of the chapter's examples.
func eight() api.Level {
	return api.Level{Blocks: 8, Size: 4, High: 3, Width: 88}
}

func filled(with byte) api.Digest {
	return api.Digest(bytes.Repeat([]byte{with}, 32))
}

func block(id, leaf int, data string) api.Block {
	return api.Block{Id: id, Leaf: leaf, Data: []byte(data)}
}

func isNone(b api.Bucket) bool {
	return len(b.Blocks) == 0 && b.Left == api.Digest{} && b.Right == api.Digest{}
}

const (
	none = "\x00\x00\x00\x00\x00\x00\x00\x00\x00\x00\x00\x00"
	two  = "\x03\x00\x00\x00\x05\x00\x00\x00abcd"
	six  = "\x07\x00\x00\x00\x01\x00\x00\x00efgh"
)

// TestExamples are those of the chapter.
func TestExamples(t *testing.T) {
	if text, e := bucket.Write(eight(), api.Bucket{}); e != api.OK || !bytes.Equal(text, make([]byte, 88)) {
		t.Error(text, e)
	}
	b := api.Bucket{Blocks: []api.Block{block(2, 5, "abcd")}, Left: filled(1), Right: filled(2)}
	want := two + none + string(bytes.Repeat([]byte{1}, 32)) + string(bytes.Repeat([]byte{2}, 32))
	text, e := bucket.Write(eight(), b)
	if e != api.OK || string(text) != want {
		t.Errorf("%q %d", text, e)
	}
	if got, e := bucket.Read(eight(), []byte(want)); e != api.OK || !bucket.Same(got, b) {
		t.Error(got, e)
	}
}

// TestCheck is P10.1: buckets that may be, and that may not.
func TestCheck(t *testing.T) {
	bad := eight()
	bad.Width = 87
	one := eight()
	one.Width = 76
	for i, x := range []struct {
		l      api.Level
		blocks []api.Block
		e      api.Errno
	}{
		{eight(), nil, api.OK},
		{eight(), []api.Block{block(7, 7, "abcd")}, api.OK},
		{eight(), []api.Block{block(7, 7, "abcd"), block(0, 7, "abcd")}, api.OK},
		{eight(), []api.Block{block(7, 7, "abcd"), block(0, 7, "abcd"), block(1, 1, "abcd")}, api.ErrBad},
		{one, []api.Block{block(7, 7, "abcd")}, api.OK},
		{one, []api.Block{block(7, 7, "abcd"), block(0, 7, "abcd")}, api.ErrBad},
		{eight(), []api.Block{block(3, 7, "abcd"), block(3, 7, "abcd")}, api.ErrBad},
		{eight(), []api.Block{block(3, 1, "abcd"), block(3, 2, "efgh")}, api.ErrBad},
		{eight(), []api.Block{block(8, 7, "abcd")}, api.ErrBad},
		{eight(), []api.Block{block(0, 0, "abcd"), block(1, 8, "abcd")}, api.ErrBad},
		{eight(), []api.Block{block(0, 0, "abcd"), block(1, 1, "abc")}, api.ErrBad},
		{bad, nil, api.ErrBad},
		{api.Level{}, nil, api.ErrBad},
	} {
		b := api.Bucket{Blocks: x.blocks, Left: filled(1)}
		if e := bucket.Check(x.l, b); e != x.e {
			t.Error("Check", i, e)
		}
		if text, e := bucket.Write(x.l, b); e != x.e || e != api.OK && len(text) != 0 || e == api.OK && len(text) != x.l.Width {
			t.Error("Write", i, text, e)
		}
	}
}

// TestRead is P10.2: texts that are a bucket's, and that aren't.
func TestRead(t *testing.T) {
	digests := string(bytes.Repeat([]byte{9}, 64))
	for _, x := range []struct {
		name, text string
		many       int
		e          api.Errno
	}{
		{"none", none + none + digests, 0, api.OK},
		{"one", two + none + digests, 1, api.OK},
		{"both", six + two + digests, 2, api.OK},
		{"none, then one", none + two + digests, 0, api.ErrBad},
		{"one twice", two + two + digests, 0, api.ErrBad},
		{"no block 8", "\x09" + two[1:] + none + digests, 0, api.ErrBad},
		{"no leaf 8", two + six[:4] + "\x08" + six[5:] + digests, 0, api.ErrBad},
		{"a rest", two + none[:11] + "\x01" + digests, 0, api.ErrBad},
		{"too short", two + none + digests[1:], 0, api.ErrShort},
		{"too long", two + none + digests + "\x00", 0, api.ErrShort},
		{"empty", "", 0, api.ErrShort},
		{"a slot less", two + digests, 0, api.ErrShort},
	} {
		b, e := bucket.Read(eight(), []byte(x.text))
		if e != x.e || len(b.Blocks) != x.many || e != api.OK && !isNone(b) || e == api.OK && (b.Left != filled(9) || b.Right != filled(9)) {
			t.Error(x.name, b, e)
		}
	}
	for _, n := range []int{0, 76, 88} {
		if b, e := bucket.Read(api.Level{Blocks: 8, Size: 4, High: 2, Width: 88}, make([]byte, n)); e != api.ErrBad || !isNone(b) {
			t.Error("a level that may not be:", n, b, e)
		}
	}
}

// TestSameAndTwin is P10.1, of any buckets.
func TestSameAndTwin(t *testing.T) {
	a := api.Bucket{Blocks: []api.Block{block(-1, 99, "ab"), block(-1, 99, "")}, Left: filled(1), Right: filled(2)}
	for i := range 7 {
		b := bucket.Twin(a)
		switch i {
		case 0:
			b.Left[31]++
		case 1:
			b.Right[0]++
		case 2:
			b.Blocks[1].Id++
		case 3:
			b.Blocks[0].Data[1]++
		case 4:
			b.Blocks = b.Blocks[:1]
		case 5:
			b.Blocks = append(b.Blocks, api.Block{})
		case 6:
			b.Left, b.Right = b.Right, b.Left
		}
		if bucket.Same(a, b) || bucket.Same(b, a) {
			t.Error("the same:", i, b)
		}
	}
	if string(a.Blocks[0].Data) != "ab" || a.Blocks[1].Id != -1 || !bucket.Same(a, bucket.Twin(a)) {
		t.Error("a twin shares memory:", a)
	}
	if !bucket.Same(api.Bucket{}, api.Bucket{Blocks: []api.Block{}}) || !isNone(bucket.Twin(api.Bucket{})) {
		t.Error("none and no element aren't the same")
	}
}

// TestMemory is P10.3.
func TestMemory(t *testing.T) {
	b := api.Bucket{Blocks: []api.Block{block(2, 5, "abcd"), block(6, 1, "efgh")}}
	text, _ := bucket.Write(eight(), b)
	kept := bytes.Clone(text)
	got, _ := bucket.Read(eight(), text)
	clear(text)
	if string(got.Blocks[0].Data) != "abcd" || string(got.Blocks[1].Data) != "efgh" {
		t.Error("a bucket shares its text:", got)
	}
	got.Blocks[0].Data = append(got.Blocks[0].Data, "XXXXXXXXXXXXXXXXXXX"...)
	if string(got.Blocks[1].Data) != "efgh" || string(b.Blocks[0].Data) != "abcd" {
		t.Error("blocks share memory:", got, b)
	}
	bucket.Read(eight(), kept)
	if string(kept[:24]) != two+six {
		t.Error("Read turns its text")
	}
}

// TestFollows is P10.4: a text tells its bucket, in one way.
func TestFollows(t *testing.T) {
	r := rand.New(rand.NewSource(12))
	for range 2000 {
		size, high, slots := 1+r.Intn(8), 1+r.Intn(6), 1+r.Intn(4)
		l := api.Level{Blocks: 1 + r.Intn(1<<high), Size: size, High: high, Width: slots*(8+size) + 64}
		var b api.Bucket
		r.Read(b.Left[:])
		r.Read(b.Right[:])
		for _, id := range r.Perm(l.Blocks)[:r.Intn(min(slots, l.Blocks)+1)] {
			data := make([]byte, size)
			r.Read(data)
			b.Blocks = append(b.Blocks, api.Block{Id: id, Leaf: r.Intn(1 << high), Data: data})
		}
		text, e := bucket.Write(l, b)
		if e != api.OK || len(text) != l.Width {
			t.Fatal(l, b, e)
		}
		got, e := bucket.Read(l, text)
		if e != api.OK || !bucket.Same(got, b) {
			t.Fatal(l, b, got, e)
		}
		text[r.Intn(len(text))] ^= byte(1 << r.Intn(8))
		if got, e := bucket.Read(l, text); e == api.OK {
			if again, e := bucket.Write(l, got); e != api.OK || !bytes.Equal(again, text) || bucket.Same(got, b) {
				t.Fatal(l, b, got, e)
			}
		}
	}
}
