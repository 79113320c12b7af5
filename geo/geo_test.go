package geo_test

import (
	"math"
	"math/rand"
	"slices"
	"testing"

	"thimblerig/api"
	"thimblerig/geo"
)

// up is a leaf's path by halves, from its bucket up to the root's.
func up(high, leaf int) []int {
	path := []int{1<<high + leaf}
	for path[0] > 1 {
		path = append([]int{path[0] / 2}, path...)
	}
	return path
}

// TestHeights is P7.1: what is a height, and how much such a tree has.
func TestHeights(t *testing.T) {
	leaves, buckets := 2, 3
	for high := 1; high <= 6; high++ {
		if e := geo.Check(high); e != api.OK {
			t.Error(high, e)
		}
		if n, e := geo.Leaves(high); n != leaves || e != api.OK {
			t.Error(high, n, e)
		}
		if n, e := geo.Buckets(high); n != buckets || e != api.OK {
			t.Error(high, n, e)
		}
		leaves, buckets = 2*leaves, 2*buckets+1
	}
	for _, high := range []int{0, 7, -1, 8, 63, 64, math.MinInt, math.MaxInt} {
		if e := geo.Check(high); e != api.ErrArg {
			t.Error(high, e)
		}
		if n, e := geo.Leaves(high); n != 0 || e != api.ErrArg {
			t.Error(high, n, e)
		}
		if n, e := geo.Buckets(high); n != 0 || e != api.ErrArg {
			t.Error(high, n, e)
		}
		if n, e := geo.Reverse(high, 3); n != 0 || e != api.ErrArg {
			t.Error(high, n, e)
		}
		if l, e := geo.Path(high, 0); len(l) != 0 || e != api.ErrArg {
			t.Error(high, l, e)
		}
		if n, e := geo.Deep(high, 0, 0); n != 0 || e != api.ErrArg {
			t.Error(high, n, e)
		}
		if is, e := geo.On(high, 1, 0); is || e != api.ErrArg {
			t.Error(high, is, e)
		}
	}
}

// TestReverse is P7.1, by the chapter's example and by strings of bits.
func TestReverse(t *testing.T) {
	for n, want := range map[uint64]int{0: 0, 1: 4, 2: 2, 3: 6, 9: 4, math.MaxUint64: 7, 1 << 63: 0, math.MaxUint64 - 1: 3} {
		if got, e := geo.Reverse(3, n); got != want || e != api.OK {
			t.Error(n, got, e)
		}
	}
	for n, want := range []int{0, 2, 1, 3, 0, 2} {
		if got, e := geo.Reverse(2, uint64(n)); got != want || e != api.OK {
			t.Error(n, got, e)
		}
	}
	r := rand.New(rand.NewSource(10))
	for range 1000 {
		high, n := 1+r.Intn(6), r.Uint64()
		want := 0
		for bit := range high {
			if n>>bit&1 == 1 {
				want |= 1 << (high - 1 - bit)
			}
		}
		if got, e := geo.Reverse(high, n); got != want || e != api.OK {
			t.Fatal(high, n, got, e)
		}
	}
}

// TestPaths is P7.2, of all leaves and buckets of all heights.
func TestPaths(t *testing.T) {
	if l, e := geo.Path(2, 1); e != api.OK || !slices.Equal(l, []int{1, 2, 5}) {
		t.Error(l, e)
	}
	for high := 1; high <= 6; high++ {
		for a := range 1 << high {
			path, e := geo.Path(high, a)
			if e != api.OK || !slices.Equal(path, up(high, a)) {
				t.Fatal(high, a, path, e)
			}
			for bucket := 1; bucket < 2<<high; bucket++ {
				if is, e := geo.On(high, bucket, a); e != api.OK || is != slices.Contains(path, bucket) {
					t.Fatal(high, bucket, a, is, e)
				}
			}
			for b := range 1 << high {
				other := up(high, b)
				want := 0
				for row := range path {
					if path[row] == other[row] {
						want = row
					}
				}
				if deep, e := geo.Deep(high, a, b); e != api.OK || deep != want {
					t.Fatal(high, a, b, deep, e)
				}
			}
		}
	}
}

// TestWrongPlaces is P7.2: leaves and buckets that there aren't.
func TestWrongPlaces(t *testing.T) {
	for high := 1; high <= 6; high++ {
		for _, leaf := range []int{-1, 1 << high, 1<<high + 1, math.MinInt, math.MaxInt} {
			if l, e := geo.Path(high, leaf); len(l) != 0 || e != api.ErrArg {
				t.Error(high, leaf, l, e)
			}
			if n, e := geo.Deep(high, leaf, 0); n != 0 || e != api.ErrArg {
				t.Error(high, leaf, n, e)
			}
			if n, e := geo.Deep(high, 1, leaf); n != 0 || e != api.ErrArg {
				t.Error(high, leaf, n, e)
			}
			if n, e := geo.Deep(high, leaf, leaf); n != 0 || e != api.ErrArg {
				t.Error(high, leaf, n, e)
			}
			if is, e := geo.On(high, 1, leaf); is || e != api.ErrArg {
				t.Error(high, leaf, is, e)
			}
		}
		for _, bucket := range []int{0, -1, 2 << high, math.MinInt, math.MaxInt} {
			if is, e := geo.On(high, bucket, 0); is || e != api.ErrArg {
				t.Error(high, bucket, is, e)
			}
		}
	}
	one, _ := geo.Path(2, 1)
	clear(one)
	if two, _ := geo.Path(2, 1); !slices.Equal(two, []int{1, 2, 5}) {
		t.Error("a path is kept:", two)
	}
}

// TestFollows is P7.3: halves, where paths part, and leaves that go round.
func TestFollows(t *testing.T) {
	for high := 1; high <= 6; high++ {
		for a := range 1 << high {
			path, _ := geo.Path(high, a)
			if path[0] != 1 || len(path) != high+1 {
				t.Fatal(path)
			}
			for row := 1; row < len(path); row++ {
				if path[row]/2 != path[row-1] {
					t.Fatal(path)
				}
			}
			b := (a*5 + 3) % (1 << high)
			other, _ := geo.Path(high, b)
			deep, _ := geo.Deep(high, a, b)
			for row := range path {
				if (path[row] == other[row]) != (row <= deep) {
					t.Fatal(path, other, deep)
				}
			}
		}
		for _, from := range []uint64{0, 5, math.MaxUint64 - 3} {
			seen := map[int]int{}
			for i := range uint64(1) << high {
				leaf, _ := geo.Reverse(high, from+i)
				seen[leaf]++
			}
			if len(seen) != 1<<high {
				t.Fatal(high, from, seen)
			}
		}
	}
}
