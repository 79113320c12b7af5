package sha_test

import (
	"bytes"
	"crypto/sha256"
	"encoding/hex"
	"math"
	"math/rand"
	"slices"
	"testing"

	"thimblerig/api"
	"thimblerig/sha"
)

func hexed(d api.Digest) string {
	return hex.EncodeToString(d[:])
}

func same(a, b api.Sum) bool {
	return a.Words == b.Words && a.Many == b.Many && bytes.Equal(a.Rest, b.Rest)
}

// under is a digest under way of b.
func under(t *testing.T, b []byte) api.Sum {
	s, e := sha.More(sha.Begin(), b)
	if e != api.OK {
		t.Fatal(e)
	}
	return s
}

// TestExamples are those of the chapter, and FIPS 180-4's longest.
func TestExamples(t *testing.T) {
	for text, want := range map[string]string{
		"":    "e3b0c44298fc1c149afbf4c8996fb92427ae41e4649b934ca495991b7852b855",
		"abc": "ba7816bf8f01cfea414140de5dae2223b00361a396177a9cb410ff61f20015ad",
		"abcdbcdecdefdefgefghfghighijhijkijkljklmklmnlmnomnopnopq": "248d6a61d20638b8e5c026930c3e6039a33ce45964ff2167f6ecedd419db06c1",
		string(bytes.Repeat([]byte("a"), 1000000)):                 "cdc76e5c9914fb9281a1c7e284d73e67f1809a48a497200e046d39ccc7112cd0",
	} {
		if got := hexed(sha.Of([]byte(text))); got != want {
			t.Errorf("%.60s: %s", text, got)
		}
		d, e := sha.End(under(t, []byte(text)))
		if e != api.OK || hexed(d) != want {
			t.Errorf("%.60s: %s, %d", text, hexed(d), e)
		}
	}
	if hexed(sha.Of()) != hexed(sha.Of(nil, []byte{})) || sha.Of() != api.Digest(sha256.Sum256(nil)) {
		t.Error("no parts are no bytes")
	}
}

// TestBegin is P2.1: what stands ahead of all bytes.
func TestBegin(t *testing.T) {
	want := api.Sum{Words: [8]uint32{0x6a09e667, 0xbb67ae85, 0x3c6ef372, 0xa54ff53a, 0x510e527f, 0x9b05688c, 0x1f83d9ab, 0x5be0cd19}}
	if got := sha.Begin(); !same(got, want) {
		t.Error(got)
	}
}

// TestMore is P2.1: words, rest and count, one block and its edges.
func TestMore(t *testing.T) {
	b := make([]byte, 300)
	rand.New(rand.NewSource(2)).Read(b)
	for n := range b {
		s := under(t, b[:n])
		if s.Many != uint64(n) || !bytes.Equal(s.Rest, b[n-n%64:n]) {
			t.Fatal(n, s)
		}
		if n < 64 && s.Words != sha.Begin().Words {
			t.Fatal("turned ahead of a whole block", n)
		}
		if whole := under(t, b[:n-n%64]); whole.Words != s.Words {
			t.Fatal("a rest turns the words", n)
		}
		if d, e := sha.End(s); e != api.OK || d != api.Digest(sha256.Sum256(b[:n])) {
			t.Fatal(n, e)
		}
	}
	// The words behind the one block of noughts, from FIPS's rounds done by another hand: the middle state that crypto/sha256 keeps.
	state, _ := func() ([]byte, error) {
		h := sha256.New()
		h.Write(make([]byte, 64))
		return h.(interface{ MarshalBinary() ([]byte, error) }).MarshalBinary()
	}()
	s := under(t, make([]byte, 64))
	for i, w := range s.Words {
		if got := state[4+4*i : 8+4*i]; !bytes.Equal(got, []byte{byte(w >> 24), byte(w >> 16), byte(w >> 8), byte(w)}) {
			t.Error(i, w, got)
		}
	}
}

// TestCheck is P2.1: what may not be, and that all calls ask it.
func TestCheck(t *testing.T) {
	const most = 1 << 56
	for _, x := range []struct {
		rest int
		many uint64
		e    api.Errno
	}{
		{0, 0, api.OK}, {1, 1, api.OK}, {63, 63, api.OK}, {0, 64, api.OK}, {5, 69, api.OK},
		{63, most - 1, api.OK}, {0, most - 64, api.OK},
		{0, most, api.ErrBad}, {1, most + 1, api.ErrBad}, {63, math.MaxUint64, api.ErrBad},
		{1, 0, api.ErrBad}, {0, 1, api.ErrBad}, {64, 64, api.ErrBad}, {64, 0, api.ErrBad}, {65, 65, api.ErrBad}, {65, 1, api.ErrBad}, {2, 1, api.ErrBad},
	} {
		s := sha.Begin()
		s.Rest, s.Many = make([]byte, x.rest), x.many
		if e := sha.Check(s); e != x.e {
			t.Error("Check", x, e)
		}
		out, e := sha.More(s, nil)
		if e != x.e || e == api.OK && !same(out, s) || e != api.OK && !same(out, api.Sum{}) {
			t.Error("More", x, out, e)
		}
		if d, e := sha.End(s); e != x.e || (e != api.OK) != (d == api.Digest{}) {
			t.Error("End", x, d, e)
		}
	}
}

// TestTooMany is P2.1: ErrMany at 2^56 bytes, not below; the length told with all its digits.
func TestTooMany(t *testing.T) {
	s := sha.Begin()
	s.Many = 1<<56 - 64
	out, e := sha.More(s, make([]byte, 63))
	if e != api.OK || out.Many != 1<<56-1 || len(out.Rest) != 63 {
		t.Error(out, e)
	}
	for _, n := range []int{64, 65, 200} {
		if out, e := sha.More(s, make([]byte, n)); e != api.ErrMany || !same(out, api.Sum{}) {
			t.Error(n, out, e)
		}
	}
	bad := s
	bad.Rest = []byte{1}
	if _, e := sha.More(bad, make([]byte, 64)); e != api.ErrBad {
		t.Error("what may not be comes first:", e)
	}
	// 0x00123456789abcc0 bytes are 0x0091a2b3c4d5e600 bits: the last block is that of noughts but for the 128 and these.
	s.Many = 0x00123456789abcc0
	d, e := sha.End(s)
	if want := hexed(lastBlock(0x0091a2b3c4d5e600)); e != api.OK || hexed(d) != want {
		t.Error(hexed(d), want, e)
	}
}

// lastBlock is the digest behind a block of nothing but the 128 and a count of bits, by crypto/sha256's own state.
func lastBlock(count uint64) api.Digest {
	block := make([]byte, 64)
	block[0] = 128
	for i := range 8 {
		block[63-i] = byte(count >> (8 * i))
	}
	h := sha256.New()
	h.Write(block)
	state, _ := h.(interface{ MarshalBinary() ([]byte, error) }).MarshalBinary()
	return api.Digest(state[4:36])
}

// TestMemory is P2.2.
func TestMemory(t *testing.T) {
	b := []byte("hello")
	s := under(t, b)
	b[0] = 'X'
	if string(s.Rest) != "hello" {
		t.Error("Rest shares the bytes:", s.Rest)
	}
	out, _ := sha.More(s, nil)
	out.Rest[0] = 'Y'
	if string(s.Rest) != "hello" {
		t.Error("Rest is shared:", s.Rest)
	}
	roomy := api.Sum{Words: s.Words, Rest: append(make([]byte, 0, 100), "hello"...), Many: 5}
	sha.More(roomy, []byte("there"))
	sha.End(roomy)
	if all := roomy.Rest[:64]; !bytes.Equal(all[5:], make([]byte, 59)) {
		t.Error("written behind Rest:", all)
	}
	parts := [][]byte{[]byte("ab"), []byte("c")}
	sha.Of(parts...)
	if string(parts[0]) != "ab" || string(parts[1]) != "c" {
		t.Error(parts)
	}
}

// TestFollows is P2.3: however bytes are parted, and what may be stays so.
func TestFollows(t *testing.T) {
	r := rand.New(rand.NewSource(3))
	for range 500 {
		b := make([]byte, r.Intn(400))
		r.Read(b)
		want := api.Digest(sha256.Sum256(b))
		s := sha.Begin()
		var parts [][]byte
		for left := b; len(left) > 0; {
			n := min(len(left), r.Intn(130))
			parts = append(parts, slices.Clone(left[:n]))
			var e api.Errno
			if s, e = sha.More(s, left[:n]); e != api.OK || sha.Check(s) != api.OK {
				t.Fatal(e)
			}
			left = left[n:]
		}
		if d, e := sha.End(s); e != api.OK || d != want || sha.Of(parts...) != want || !same(s, under(t, b)) {
			t.Fatal(len(b), d, e)
		}
	}
}
