package chacha_test

import (
	"encoding/hex"
	"math/bits"
	"math/rand"
	"strings"
	"testing"

	"thimblerig/api"
	"thimblerig/chacha"
)

// plain is a quarter round, written out as RFC 8439 has it, at four places of some words.
func plain(w []uint32, a, b, c, d int) {
	w[a] += w[b]
	w[d] = bits.RotateLeft32(w[d]^w[a], 16)
	w[c] += w[d]
	w[b] = bits.RotateLeft32(w[b]^w[c], 12)
	w[a] += w[b]
	w[d] = bits.RotateLeft32(w[d]^w[a], 8)
	w[c] += w[d]
	w[b] = bits.RotateLeft32(w[b]^w[c], 7)
}

func unhex(t *testing.T, s string) []byte {
	b, err := hex.DecodeString(strings.ReplaceAll(s, " ", ""))
	if err != nil {
		t.Fatal(err)
	}
	return b
}

// TestQuarter is P3.1, by RFC 8439's 2.1.1 and by a quarter round that is written out.
func TestQuarter(t *testing.T) {
	from := [4]uint32{0x11111111, 0x01020304, 0x9b8d6f43, 0x01234567}
	want := [4]uint32{0xea2a92f4, 0xcb1cf8ce, 0x4581472e, 0x5881c4bb}
	if got := chacha.Quarter(from); got != want {
		t.Errorf("%x", got)
	}
	if got := chacha.Undo(want); got != from {
		t.Errorf("%x", got)
	}
	r := rand.New(rand.NewSource(4))
	for range 1000 {
		q := [4]uint32{r.Uint32(), r.Uint32(), r.Uint32(), r.Uint32()}
		w := q
		plain(w[:], 0, 1, 2, 3)
		if chacha.Quarter(q) != w || chacha.Undo(w) != q {
			t.Fatal(q)
		}
	}
}

// TestDouble is P3.1: each word has its place.
func TestDouble(t *testing.T) {
	r := rand.New(rand.NewSource(5))
	for range 200 {
		var w [16]uint32
		for i := range w {
			w[i] = r.Uint32()
		}
		want := w
		for i := range 4 {
			plain(want[:], i, 4+i, 8+i, 12+i)
		}
		for i := range 4 {
			plain(want[:], i, 4+(i+1)%4, 8+(i+2)%4, 12+(i+3)%4)
		}
		if got := chacha.Double(w); got != want {
			t.Fatalf("%x", got)
		}
	}
}

// TestWords is P3.2: constants, key, count and nonce, the lowest byte first (RFC 8439, 2.3.2).
func TestWords(t *testing.T) {
	var k api.Key
	for i := range k {
		k[i] = byte(i)
	}
	n := api.Nonce{0, 0, 0, 9, 0, 0, 0, 0x4a}
	want := [16]uint32{
		0x61707865, 0x3320646e, 0x79622d32, 0x6b206574,
		0x03020100, 0x07060504, 0x0b0a0908, 0x0f0e0d0c,
		0x13121110, 0x17161514, 0x1b1a1918, 0x1f1e1d1c,
		0x00000001, 0x09000000, 0x4a000000, 0x00000000,
	}
	if got := chacha.Words(k, 1, n); got != want {
		t.Errorf("%x", got)
	}
	if got := chacha.Words(api.Key{31: 255}, 0xfffefdfc, api.Nonce{8: 1, 11: 254}); got[11] != 0xff000000 || got[12] != 0xfffefdfc || got[15] != 0xfe000001 {
		t.Errorf("%x", got)
	}
}

// TestBlock is P3.2, by RFC 8439's 2.3.2 and the test vectors of its appendix A.1.
func TestBlock(t *testing.T) {
	var counted api.Key
	for i := range counted {
		counted[i] = byte(i)
	}
	for _, x := range []struct {
		k     api.Key
		count uint32
		n     api.Nonce
		want  string
	}{
		{counted, 1, api.Nonce{3: 9, 7: 0x4a}, "10 f1 e7 e4 d1 3b 59 15 50 0f dd 1f a3 20 71 c4 c7 d1 f4 c7 33 c0 68 03 04 22 aa 9a c3 d4 6c 4e d2 82 64 46 07 9f aa 09 14 c2 d7 05 d9 8b 02 a2 b5 12 9c d1 de 16 4e b9 cb d0 83 e8 a2 50 3c 4e"},
		{api.Key{}, 0, api.Nonce{}, "76 b8 e0 ad a0 f1 3d 90 40 5d 6a e5 53 86 bd 28 bd d2 19 b8 a0 8d ed 1a a8 36 ef cc 8b 77 0d c7 da 41 59 7c 51 57 48 8d 77 24 e0 3f b8 d8 4a 37 6a 43 b8 f4 15 18 a1 1c c3 87 b6 69 b2 ee 65 86"},
		{api.Key{}, 1, api.Nonce{}, "9f 07 e7 be 55 51 38 7a 98 ba 97 7c 73 2d 08 0d cb 0f 29 a0 48 e3 65 69 12 c6 53 3e 32 ee 7a ed 29 b7 21 76 9c e6 4e 43 d5 71 33 b0 74 d8 39 d5 31 ed 1f 28 51 0a fb 45 ac e1 0a 1f 4b 79 4d 6f"},
		{api.Key{31: 1}, 1, api.Nonce{}, "3a eb 52 24 ec f8 49 92 9b 9d 82 8d b1 ce d4 dd 83 20 25 e8 01 8b 81 60 b8 22 84 f3 c9 49 aa 5a 8e ca 00 bb b4 a7 3b da d1 92 b5 c4 2f 73 f2 fd 4e 27 36 44 c8 b3 61 25 a6 4a dd eb 00 6c 13 a0"},
		{api.Key{1: 255}, 2, api.Nonce{}, "72 d5 4d fb f1 2e c4 4b 36 26 92 df 94 13 7f 32 8f ea 8d a7 39 90 26 5e c1 bb be a1 ae 9a f0 ca 13 b2 5a a2 6c b4 a6 48 cb 9b 9d 1b e6 5b 2c 09 24 a6 6c 54 d5 45 ec 1b 73 74 f4 87 2e 99 f0 96"},
		{api.Key{}, 0, api.Nonce{11: 2}, "c2 c6 4d 37 8c d5 36 37 4a e2 04 b9 ef 93 3f cd 1a 8b 22 88 b3 df a4 96 72 ab 76 5b 54 ee 27 c7 8a 97 0e 0e 95 5c 14 f3 a8 8e 74 1b 97 c2 86 f7 5f 8f c2 99 e8 14 83 62 fa 19 8a 39 53 1b ed 6d"},
	} {
		got := chacha.Block(x.k, x.count, x.n)
		if string(got[:]) != string(unhex(t, x.want)) {
			t.Errorf("%x: %x", x.count, got)
		}
	}
}

// TestFollows is P3.3: a block tells its words, where the rounds are told.
func TestFollows(t *testing.T) {
	r := rand.New(rand.NewSource(6))
	for range 100 {
		var k api.Key
		var n api.Nonce
		r.Read(k[:])
		r.Read(n[:])
		count := r.Uint32()
		first := chacha.Words(k, count, n)
		w := first
		for range 10 {
			w = chacha.Double(w)
		}
		block := chacha.Block(k, count, n)
		for i := range w {
			sum := uint32(block[4*i]) | uint32(block[4*i+1])<<8 | uint32(block[4*i+2])<<16 | uint32(block[4*i+3])<<24
			if sum-w[i] != first[i] {
				t.Fatal(i)
			}
		}
		q := [4]uint32(w[:4])
		if chacha.Undo(chacha.Quarter(q)) != q || chacha.Quarter(chacha.Undo(q)) != q {
			t.Fatal(q)
		}
	}
}
