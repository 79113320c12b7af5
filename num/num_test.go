package num_test

import (
	"bytes"
	"math"
	"math/rand"
	"slices"
	"testing"

	"thimblerig/api"
	"thimblerig/num"
)

// many is n sizes of size each.
func many(n, size int) []int {
	return slices.Repeat([]int{size}, n)
}

// TestSizesThatMayBe is P1.1: Size, and the sizes that Cut takes.
func TestSizesThatMayBe(t *testing.T) {
	for _, x := range []struct {
		name  string
		sizes []int
		size  int
		e     api.Errno
	}{
		{"none", nil, 0, api.OK},
		{"no element", []int{}, 0, api.OK},
		{"one nought", []int{0}, 0, api.OK},
		{"a few", []int{1, 0, 3}, 4, api.OK},
		{"as many as may be", many(api.MaxFields, 2), 2 * api.MaxFields, api.OK},
		{"one more", many(api.MaxFields+1, 0), 0, api.ErrArg},
		{"the greatest", []int{api.MaxBytes}, api.MaxBytes, api.OK},
		{"a greater one", []int{api.MaxBytes + 1}, 0, api.ErrArg},
		{"just together", []int{api.MaxBytes - 1, 0, 1}, api.MaxBytes, api.OK},
		{"too many together", []int{api.MaxBytes - 1, 2}, 0, api.ErrArg},
		{"too many together, then less", []int{api.MaxBytes, 1, -1}, 0, api.ErrArg},
		{"below nought", []int{2, -1}, 0, api.ErrArg},
		{"the least", []int{math.MinInt}, 0, api.ErrArg},
		{"sums that run over", []int{math.MaxInt, math.MaxInt, 2}, 0, api.ErrArg},
	} {
		size, e := num.Size(x.sizes)
		if size != x.size || e != x.e {
			t.Errorf("%s: Size tells %d, %d", x.name, size, e)
		}
		parts, e := num.Cut(make([]byte, x.size), x.sizes)
		if e != x.e || e != api.OK && len(parts) != 0 || e == api.OK && len(parts) != len(x.sizes) {
			t.Errorf("%s: Cut tells %d parts, %d", x.name, len(parts), e)
		}
	}
}

// TestCut is P1.1: parts, and bytes that are too few or too many.
func TestCut(t *testing.T) {
	parts, e := num.Cut([]byte("abcd"), []int{1, 0, 3})
	if e != api.OK || len(parts) != 3 || string(parts[0]) != "a" || len(parts[1]) != 0 || string(parts[2]) != "bcd" {
		t.Error(parts, e)
	}
	for _, b := range []string{"", "abc", "abcde"} {
		if parts, e := num.Cut([]byte(b), []int{1, 0, 3}); e != api.ErrShort || len(parts) != 0 {
			t.Error(b, parts, e)
		}
	}
	if parts, e := num.Cut(nil, nil); e != api.OK || len(parts) != 0 {
		t.Error(parts, e)
	}
	if parts, e := num.Cut([]byte("a"), nil); e != api.ErrShort || len(parts) != 0 {
		t.Error(parts, e)
	}
	if parts, e := num.Cut([]byte("a"), []int{-1, 5}); e != api.ErrArg || len(parts) != 0 {
		t.Error("sizes are asked first:", parts, e)
	}
}

// TestPut is P1.2: what is put, at each size's edge.
func TestPut(t *testing.T) {
	if b, e := num.Put([]uint64{258, 7}, []int{2, 1}); e != api.OK || !bytes.Equal(b, []byte{2, 1, 7}) {
		t.Error(b, e)
	}
	if b, e := num.Put(nil, nil); e != api.OK || len(b) != 0 {
		t.Error(b, e)
	}
	for size := 1; size <= 8; size++ {
		most := uint64(math.MaxUint64) >> (64 - 8*size)
		b, e := num.Put([]uint64{most}, []int{size})
		if e != api.OK || !bytes.Equal(b, bytes.Repeat([]byte{255}, size)) {
			t.Error(size, b, e)
		}
		b, e = num.Put([]uint64{1 << (8*size - 8)}, []int{size})
		if want := append(make([]byte, size-1), 1); e != api.OK || !bytes.Equal(b, want) {
			t.Error(size, b, e)
		}
		if size == 8 {
			break
		}
		for _, n := range []uint64{most + 1, math.MaxUint64} {
			if b, e := num.Put([]uint64{0, n}, []int{1, size}); e != api.ErrMany || len(b) != 0 {
				t.Error(size, n, b, e)
			}
		}
	}
}

// TestPutAndTakeRefuse is P1.2: sizes that aren't numbers' sizes come first, then counts, then digits.
func TestPutAndTakeRefuse(t *testing.T) {
	for _, sizes := range [][]int{{0}, {9}, {-1}, {1, 0}, {1, 9}, {math.MinInt}, many(65, 1)} {
		b, e := num.Put(slices.Repeat([]uint64{1 << 63}, len(sizes)), sizes)
		if e != api.ErrArg || len(b) != 0 {
			t.Error("Put", sizes, b, e)
		}
		l, e := num.Take([]byte("abc"), sizes)
		if e != api.ErrArg || len(l) != 0 {
			t.Error("Take", sizes, l, e)
		}
	}
	for _, l := range [][]uint64{nil, {999}, {999, 999, 999}} {
		if b, e := num.Put(l, []int{1, 1}); e != api.ErrArg || len(b) != 0 {
			t.Error(l, b, e)
		}
	}
	for _, b := range []string{"", "abc", "abcde"} {
		if l, e := num.Take([]byte(b), []int{1, 3}); e != api.ErrShort || len(l) != 0 {
			t.Error(b, l, e)
		}
	}
	if l, e := num.Take([]byte{1}, nil); e != api.ErrShort || len(l) != 0 {
		t.Error(l, e)
	}
}

// TestTake is P1.2: the numbers that bytes are.
func TestTake(t *testing.T) {
	if l, e := num.Take([]byte{2, 1, 7}, []int{2, 1}); e != api.OK || !slices.Equal(l, []uint64{258, 7}) {
		t.Error(l, e)
	}
	if l, e := num.Take(nil, nil); e != api.OK || len(l) != 0 {
		t.Error(l, e)
	}
	b := []byte{1, 2, 3, 4, 5, 6, 7, 255}
	want := []uint64{0x0000000000000001, 0x0201, 0x030201, 0x04030201, 0x0504030201, 0x060504030201, 0x07060504030201, 0xff07060504030201}
	for size := 1; size <= 8; size++ {
		if l, e := num.Take(b[:size], []int{size}); e != api.OK || !slices.Equal(l, want[size-1:size]) {
			t.Error(size, l, e)
		}
	}
	if l, e := num.Take(make([]byte, 512), many(64, 8)); e != api.OK || len(l) != 64 {
		t.Error(len(l), e)
	}
}

// TestMemory is P1.3: nothing that is handed in is turned, and nothing is shared.
func TestMemory(t *testing.T) {
	b, sizes, l := []byte("abcd"), []int{1, 3}, []uint64{7, 9}
	parts, _ := num.Cut(b, sizes)
	parts[0] = append(parts[0], 'X')
	if string(parts[1]) != "bcd" || string(b) != "abcd" {
		t.Error("a part that is made longer reaches the next one:", parts, b)
	}
	clear(parts[1])
	if string(b) != "abcd" {
		t.Error("parts share the bytes:", b)
	}
	parts, _ = num.Cut(b, sizes)
	b[1] = 'Y'
	if string(parts[1]) != "bcd" {
		t.Error("parts share the bytes:", parts)
	}
	one, _ := num.Put(l, sizes)
	two, _ := num.Put(l, sizes)
	clear(one)
	if !bytes.Equal(two, []byte{7, 9, 0, 0}) || !slices.Equal(l, []uint64{7, 9}) || !slices.Equal(sizes, []int{1, 3}) {
		t.Error("something is turned, or kept:", two, l, sizes)
	}
	if _, e := num.Take(two, sizes); e != api.OK || !bytes.Equal(two, []byte{7, 9, 0, 0}) {
		t.Error("Take turns the bytes:", two)
	}
}

// TestFollows is P1.4, of numbers, sizes and bytes of all kinds.
func TestFollows(t *testing.T) {
	r := rand.New(rand.NewSource(1))
	for range 2000 {
		sizes := make([]int, r.Intn(api.MaxFields+1))
		l := make([]uint64, len(sizes))
		for i := range sizes {
			sizes[i] = 1 + r.Intn(8)
			l[i] = r.Uint64() >> (64 - 8*sizes[i])
		}
		b, e := num.Put(l, sizes)
		if e != api.OK {
			t.Fatal(e)
		}
		back, e := num.Take(b, sizes)
		if e != api.OK || !slices.Equal(back, l) {
			t.Fatal(back, l, e)
		}
		r.Read(b)
		taken, _ := num.Take(b, sizes)
		again, e := num.Put(taken, sizes)
		if e != api.OK || !bytes.Equal(again, b) {
			t.Fatal(again, b, e)
		}
		parts, e := num.Cut(b, sizes)
		if e != api.OK || !bytes.Equal(bytes.Join(parts, nil), b) {
			t.Fatal(parts, b, e)
		}
		for i, part := range parts {
			if len(part) != sizes[i] {
				t.Fatal(parts, sizes)
			}
		}
	}
}
