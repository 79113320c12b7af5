package seal_test

import (
	"bytes"
	"crypto/sha256"
	"math"
	"math/rand"
	"testing"

	"thimblerig/api"
	"thimblerig/lane"
	"thimblerig/seal"
)

func pad(width int, bytes ...byte) api.Source {
	return api.Source{Kind: api.FromPad, Pad: bytes, Width: width}
}

func chacha(first byte) api.Source {
	return api.Source{Kind: api.FromChacha, Key: api.Key{first}}
}

// TestExamples are those of the chapter.
func TestExamples(t *testing.T) {
	s := pad(2, 10, 20, 30, 40)
	b, e := seal.Write(s, 1, []byte{1, 2})
	if e != api.OK || !bytes.Equal(b, []byte{1, 0, 0, 0, 0, 0, 0, 0, 31, 42}) {
		t.Error(b, e)
	}
	if n, text, e := seal.Read(s, b); n != 1 || e != api.OK || !bytes.Equal(text, []byte{1, 2}) {
		t.Error(n, text, e)
	}
	if b, e := seal.Write(s, 2, []byte{1, 2}); e != api.ErrEntropy || len(b) != 0 {
		t.Error(b, e)
	}
	if b, e := seal.Hashed(1, 2, []byte{7, 8}); e != api.OK || !bytes.Equal(b, []byte{1, 2, 0, 0, 0, 7, 8}) {
		t.Error(b, e)
	}
}

// TestWrite is P11.1: errors are the stream's, lengths the text's.
func TestWrite(t *testing.T) {
	s := pad(2, 10, 20, 30, 40)
	for i, x := range []struct {
		s    api.Source
		n    uint64
		text []byte
		want []byte
		e    api.Errno
	}{
		{s, 0, nil, make([]byte, 8), api.OK},
		{s, 0, []byte{255}, []byte{0, 0, 0, 0, 0, 0, 0, 0, 245}, api.OK},
		{s, 0, []byte{1, 2, 3}, nil, api.ErrMany},
		{s, 9, []byte{1, 2, 3}, nil, api.ErrMany},
		{s, math.MaxUint64, nil, nil, api.ErrEntropy},
		{api.Source{}, 9, []byte{1, 2, 3}, nil, api.ErrBad},
		{chacha(1), 0x0807060504030201, nil, []byte{1, 2, 3, 4, 5, 6, 7, 8}, api.OK},
		{chacha(1), 0, make([]byte, api.MaxStream+1), nil, api.ErrMany},
	} {
		if b, e := seal.Write(x.s, x.n, x.text); e != x.e || !bytes.Equal(b, x.want) {
			t.Error(i, b, e)
		}
	}
	text := make([]byte, api.MaxStream)
	b, e := seal.Write(chacha(1), math.MaxUint64, text)
	stream, _ := lane.Of(chacha(1), math.MaxUint64, api.MaxStream)
	if e != api.OK || !bytes.Equal(b[:8], bytes.Repeat([]byte{255}, 8)) || !bytes.Equal(b[8:], stream) {
		t.Error(len(b), e)
	}
}

// TestRead is P11.1: too few bytes come first, then the stream's errors.
func TestRead(t *testing.T) {
	s := pad(2, 10, 20, 30, 40)
	for i, x := range []struct {
		s    api.Source
		b    []byte
		n    uint64
		text []byte
		e    api.Errno
	}{
		{s, nil, 0, nil, api.ErrShort},
		{s, make([]byte, 7), 0, nil, api.ErrShort},
		{api.Source{}, make([]byte, 7), 0, nil, api.ErrShort},
		{api.Source{}, make([]byte, 8), 0, nil, api.ErrBad},
		{s, make([]byte, 8), 0, nil, api.OK},
		{s, []byte{1, 0, 0, 0, 0, 0, 0, 0}, 1, nil, api.OK},
		{s, []byte{1, 0, 0, 0, 0, 0, 0, 0, 30, 41}, 1, []byte{0, 1}, api.OK},
		{s, []byte{2, 0, 0, 0, 0, 0, 0, 0, 30, 41}, 0, nil, api.ErrEntropy},
		{s, []byte{0, 0, 0, 0, 0, 0, 0, 1}, 0, nil, api.ErrEntropy},
		{s, []byte{2, 0, 0, 0, 0, 0, 0, 0, 30, 41, 5}, 0, nil, api.ErrMany},
	} {
		if n, text, e := seal.Read(x.s, x.b); n != x.n || e != x.e || !bytes.Equal(text, x.text) {
			t.Error(i, n, text, e)
		}
	}
}

// TestHashed is P11.2: levels and buckets at their edges.
func TestHashed(t *testing.T) {
	for _, x := range []struct {
		level, bucket int
		e             api.Errno
	}{
		{0, 1, api.OK}, {3, 127, api.OK}, {0, 127, api.OK}, {3, 1, api.OK}, {2, 64, api.OK},
		{4, 1, api.ErrArg}, {0, 128, api.ErrArg}, {-1, 1, api.ErrArg}, {0, 0, api.ErrArg}, {0, -1, api.ErrArg}, {math.MaxInt, 1, api.ErrArg}, {256, 1, api.ErrArg},
		{0, math.MinInt, api.ErrArg}, {0, 1<<32 + 1, api.ErrArg},
	} {
		for _, b := range [][]byte{nil, {7, 8}, make([]byte, 500)} {
			var want []byte
			var sum api.Digest
			if x.e == api.OK {
				want = append([]byte{byte(x.level), byte(x.bucket), 0, 0, 0}, b...)
				sum = sha256.Sum256(want)
			}
			if got, e := seal.Hashed(x.level, x.bucket, b); e != x.e || !bytes.Equal(got, want) {
				t.Error("Hashed", x, got, e)
			}
			if got, e := seal.Sum(x.level, x.bucket, b); e != x.e || got != sum {
				t.Error("Sum", x, got, e)
			}
		}
	}
}

// TestMemory is P11.3.
func TestMemory(t *testing.T) {
	s, text := pad(2, 10, 20, 30, 40), append(make([]byte, 0, 50), 1, 2)
	b, _ := seal.Write(s, 1, text)
	_, got, _ := seal.Read(s, b)
	hashed, _ := seal.Hashed(1, 2, text)
	clear(hashed)
	clear(got)
	if !bytes.Equal(b[8:], []byte{31, 42}) {
		t.Error("a text shares what was sealed")
	}
	clear(b)
	if !bytes.Equal(text[:10], []byte{1, 2, 0, 0, 0, 0, 0, 0, 0, 0}) || !bytes.Equal(s.Pad, []byte{10, 20, 30, 40}) {
		t.Error("turned what was handed in:", text, s.Pad)
	}
}

// TestFollows is P11.4.
func TestFollows(t *testing.T) {
	r := rand.New(rand.NewSource(13))
	seen := map[string][3]string{}
	for range 500 {
		s := chacha(byte(r.Int()))
		n := r.Uint64() >> r.Intn(64)
		if r.Intn(2) == 0 {
			bytes := make([]byte, 300)
			r.Read(bytes)
			s, n = pad(30, bytes...), uint64(r.Intn(10))
		}
		text := make([]byte, r.Intn(30))
		r.Read(text)
		b, e := seal.Write(s, n, text)
		if e != api.OK {
			t.Fatal(e)
		}
		was, got, e := seal.Read(s, b)
		if was != n || e != api.OK || !bytes.Equal(got, text) {
			t.Fatal(n, was, text, got, e)
		}
		if s.Kind == api.FromPad {
			for i := range text {
				if s.Pad[int(n)*30+i] != text[i]^b[8+i] {
					t.Fatal("a text and its sealed one don't tell the pad")
				}
			}
		}
		r.Read(b[8:])
		was, got, _ = seal.Read(s, b)
		if again, e := seal.Write(s, was, got); e != api.OK || !bytes.Equal(again, b) {
			t.Fatal(again, b, e)
		}
		level, bucket := r.Intn(4), 1+r.Intn(127)
		hashed, _ := seal.Hashed(level, bucket, text)
		place := [3]string{string(rune(level)), string(rune(bucket)), string(text)}
		if other, is := seen[string(hashed)]; is && other != place {
			t.Fatal("hashed alike:", other, place)
		}
		seen[string(hashed)] = place
	}
}
