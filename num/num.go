// Package num is layer 1: numbers and parts of fixed sizes.
package num

import (
	"slices"

	"thimblerig/api"
)

// What a number's size is from and to.
const (
	lowDigits  = 1
	highDigits = 8
)

// Size is how many bytes sizes are together.
func Size(sizes []int) (int, api.Errno) {
	return together(sizes, 0, api.MaxBytes)
}

// Put is numbers in so many bytes each, one behind the other.
func Put(l []uint64, sizes []int) ([]byte, api.Errno) {
	total, e := together(sizes, lowDigits, highDigits)
	if e != api.OK {
		return nil, e
	}
	if len(l) != len(sizes) {
		return nil, api.ErrArg
	}
	out := make([]byte, 0, total)
	for i, size := range sizes {
		if !fits(l[i], size) {
			return nil, api.ErrMany
		}
		out = shiftApart(out, l[i], size)
	}
	return out, api.OK
}

// Take is the numbers that bytes are.
func Take(b []byte, sizes []int) ([]uint64, api.Errno) {
	if _, e := together(sizes, lowDigits, highDigits); e != api.OK {
		return nil, e
	}
	parts, e := Cut(b, sizes)
	if e != api.OK {
		return nil, e
	}
	out := make([]uint64, len(parts))
	for i, part := range parts {
		out[i] = shiftTogether(part)
	}
	return out, api.OK
}

// Cut is bytes' parts, one behind the other.
func Cut(b []byte, sizes []int) ([][]byte, api.Errno) {
	total, e := Size(sizes)
	if e != api.OK {
		return nil, e
	}
	if len(b) != total {
		return nil, api.ErrShort
	}
	whole := slices.Clone(b)
	out := make([][]byte, len(sizes))
	at := 0
	for i, size := range sizes {
		// The third index keeps one who appends to a part out of the next one.
		out[i] = whole[at : at+size : at+size]
		at += size
	}
	return out, api.OK
}

// together sums sizes up, each of which has to be from low to high.
func together(sizes []int, low, high int) (int, api.Errno) {
	if len(sizes) > api.MaxFields {
		return 0, api.ErrArg
	}
	total := 0
	add := func(size int) bool {
		if size < low || size > high {
			return false
		}
		total += size
		return total <= api.MaxBytes
	}
	for _, size := range sizes {
		if !add(size) {
			return 0, api.ErrArg
		}
	}
	return total, api.OK
}

// fits tells whether a number has no more digits than size.
func fits(n uint64, size int) bool {
	return size >= highDigits || n>>(8*size) == 0
}

// shiftApart puts a number's digits behind out, the lowest first.
func shiftApart(out []byte, n uint64, size int) []byte {
	for i := range size {
		out = append(out, byte(n>>(8*i)))
	}
	return out
}

// shiftTogether is the number whose digits are given, the lowest first.
func shiftTogether(digits []byte) uint64 {
	n := uint64(0)
	for i := range len(digits) {
		n |= uint64(digits[i]) << (8 * i)
	}
	return n
}
