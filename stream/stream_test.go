package stream_test

import (
	"bytes"
	"math"
	"math/rand"
	"testing"

	"thimblerig/api"
	"thimblerig/chacha"
	"thimblerig/stream"
)

// long is the whole stream of a number, as far as it may be asked, block by block.
func long(k api.Key, n uint64) []byte {
	nonce := api.Nonce{4: byte(n), 5: byte(n >> 8), 6: byte(n >> 16), 7: byte(n >> 24), 8: byte(n >> 32), 9: byte(n >> 40), 10: byte(n >> 48), 11: byte(n >> 56)}
	var out []byte
	for count := range uint32(32) {
		block := chacha.Block(k, count, nonce)
		out = append(out, block[:]...)
	}
	return out
}

// TestNonce is P4.1.
func TestNonce(t *testing.T) {
	for n, want := range map[uint64]api.Nonce{
		0:                  {},
		258:                {0, 0, 0, 0, 2, 1, 0, 0, 0, 0, 0, 0},
		0x0807060504030201: {0, 0, 0, 0, 1, 2, 3, 4, 5, 6, 7, 8},
		math.MaxUint64:     {0, 0, 0, 0, 255, 255, 255, 255, 255, 255, 255, 255},
	} {
		if got := stream.Nonce(n); got != want {
			t.Error(n, got)
		}
	}
}

// TestOf is P4.1: each length that may be, and those that may not.
func TestOf(t *testing.T) {
	if b, e := stream.Of(api.Key{}, 0, 4); e != api.OK || !bytes.Equal(b, []byte{0x76, 0xb8, 0xe0, 0xad}) {
		t.Errorf("%x %d", b, e)
	}
	for _, n := range []uint64{0, 1, 258, math.MaxUint64} {
		k := api.Key{3: 7, 31: byte(n)}
		whole := long(k, n)
		for many := 0; many <= api.MaxStream; many++ {
			if many > 200 && many%61 != 0 && many < api.MaxStream-1 {
				continue
			}
			if b, e := stream.Of(k, n, many); e != api.OK || !bytes.Equal(b, whole[:many]) {
				t.Fatal(n, many, e)
			}
		}
	}
	for _, many := range []int{-1, math.MinInt, api.MaxStream + 1, math.MaxInt} {
		if b, e := stream.Of(api.Key{}, 0, many); e != api.ErrMany || len(b) != 0 {
			t.Error(many, len(b), e)
		}
	}
}

// TestXor is P4.2.
func TestXor(t *testing.T) {
	a, b := []byte{1, 2, 0xf0}, []byte{3, 3, 0xff}
	c, e := stream.Xor(a, b)
	if e != api.OK || !bytes.Equal(c, []byte{2, 1, 0x0f}) {
		t.Error(c, e)
	}
	clear(c)
	if !bytes.Equal(a, []byte{1, 2, 0xf0}) || !bytes.Equal(b, []byte{3, 3, 0xff}) {
		t.Error("turned what was handed in:", a, b)
	}
	if c, e := stream.Xor(nil, []byte{}); e != api.OK || len(c) != 0 {
		t.Error(c, e)
	}
	for _, x := range [][2][]byte{{a, b[:2]}, {a[:2], b}, {nil, b}, {a, nil}} {
		if c, e := stream.Xor(x[0], x[1]); e != api.ErrArg || len(c) != 0 {
			t.Error(x, c, e)
		}
	}
}

// TestFollows is P4.3.
func TestFollows(t *testing.T) {
	r := rand.New(rand.NewSource(7))
	seen := map[api.Nonce]uint64{}
	for range 300 {
		var k api.Key
		r.Read(k[:])
		n, many := r.Uint64()>>r.Intn(64), r.Intn(api.MaxStream+1)
		if was, is := seen[stream.Nonce(n)]; is && was != n {
			t.Fatal("one nonce of two numbers", n, was)
		}
		seen[stream.Nonce(n)] = n
		more, _ := stream.Of(k, n, many)
		fewer, _ := stream.Of(k, n, r.Intn(many+1))
		if !bytes.HasPrefix(more, fewer) {
			t.Fatal(n, many)
		}
		text := make([]byte, many)
		r.Read(text)
		once, _ := stream.Xor(text, more)
		twice, e := stream.Xor(once, more)
		if e != api.OK || !bytes.Equal(twice, text) {
			t.Fatal(n, many, e)
		}
	}
	for i := range 64 {
		for j := range i {
			if stream.Nonce(1<<i) == stream.Nonce(1<<j) {
				t.Fatal(i, j)
			}
		}
	}
}
