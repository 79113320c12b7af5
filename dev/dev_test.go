package dev_test

import (
	"bytes"
	"math"
	"math/rand"
	"testing"

	"thimblerig/api"
	"thimblerig/dev"
)

// eight is the config of chapter 8's examples: levels of 15, 7 and 3 buckets, of 96, 104 and 104 bytes.
func eight() api.Config {
	return api.Config{Pages: 8, Size: 4, Fan: 2, Slots: 2, Stash: 8, Frames: 2, Clients: 2, Queue: 4, Top: 2}
}

func bytesOf(level int, with byte) []byte {
	return bytes.Repeat([]byte{with}, []int{96, 104, 104}[level])
}

func isNone(d api.Dev) bool {
	return len(d.Levels) == 0
}

func begin(t *testing.T) api.Dev {
	d, e := dev.New(eight())
	if e != api.OK {
		t.Fatal(e)
	}
	return d
}

// random is a device of bytes of all kinds.
func random(t *testing.T, r *rand.Rand) api.Dev {
	d := begin(t)
	for _, level := range d.Levels {
		for _, b := range level {
			r.Read(b)
		}
	}
	return d
}

func sameSee(a, b api.See) bool {
	return a.Kind == b.Kind && a.Level == b.Level && a.Bucket == b.Bucket && bytes.Equal(a.Bytes, b.Bytes)
}

// TestNew is P12.1.
func TestNew(t *testing.T) {
	d := begin(t)
	for i, many := range []int{15, 7, 3} {
		if len(d.Levels) != 3 || len(d.Levels[i]) != many {
			t.Fatal(d)
		}
		for _, b := range d.Levels[i] {
			if !bytes.Equal(b, bytesOf(i, 0)) {
				t.Fatal(i, b)
			}
		}
	}
	bad := eight()
	bad.Fan = 1
	if d, e := dev.New(bad); e != api.ErrBad || !isNone(d) {
		t.Error(d, e)
	}
}

// TestCheck is P12.1 to P12.3: devices that may be, and that may not; every call asks first.
func TestCheck(t *testing.T) {
	c := eight()
	if e := dev.Check(c, begin(t)); e != api.OK {
		t.Error(e)
	}
	for i := range 10 {
		c, d := eight(), begin(t)
		switch i {
		case 0:
			d = api.Dev{}
		case 1:
			d.Levels = d.Levels[:2]
		case 2:
			d.Levels = append(d.Levels, d.Levels[2])
		case 3:
			d.Levels[0] = d.Levels[0][:14]
		case 4:
			d.Levels[2] = append(d.Levels[2], d.Levels[2][0])
		case 5:
			d.Levels[0][14] = d.Levels[0][14][:95]
		case 6:
			d.Levels[1][0] = append(d.Levels[1][0], 0)
		case 7:
			d.Levels[2][2] = nil
		case 8:
			d.Levels[1] = nil
		case 9:
			c.Pages = 0
		}
		if e := dev.Check(c, d); e != api.ErrBad {
			t.Error("Check", i, e)
		}
		if all, l, e := dev.Read(c, d, -1, nil); e != api.ErrBad || len(all) != 0 || len(l) != 0 {
			t.Error("Read", i, all, l, e)
		}
		if out, l, e := dev.Write(c, d, -1, nil, nil); e != api.ErrBad || !isNone(out) || len(l) != 0 {
			t.Error("Write", i, out, l, e)
		}
		if out, e := dev.Replay(c, d, []api.See{{}}); e != api.ErrBad || !isNone(out) {
			t.Error("Replay", i, out, e)
		}
	}
}

// TestExample is that of the chapter, with all that is seen.
func TestExample(t *testing.T) {
	c, d := eight(), begin(t)
	d, l, e := dev.Write(c, d, 2, []int{3, 1}, [][]byte{bytesOf(2, 3), bytesOf(2, 1)})
	if e != api.OK || len(l) != 2 || !sameSee(l[0], api.See{Kind: api.SeeWrite, Level: 2, Bucket: 3, Bytes: bytesOf(2, 3)}) || !sameSee(l[1], api.See{Kind: api.SeeWrite, Level: 2, Bucket: 1, Bytes: bytesOf(2, 1)}) {
		t.Fatal(l, e)
	}
	all, l, e := dev.Read(c, d, 2, []int{1, 2})
	if e != api.OK || len(all) != 2 || !bytes.Equal(all[0], bytesOf(2, 1)) || !bytes.Equal(all[1], bytesOf(2, 0)) {
		t.Fatal(all, e)
	}
	if len(l) != 2 || !sameSee(l[0], api.See{Kind: api.SeeRead, Level: 2, Bucket: 1, Bytes: bytesOf(2, 1)}) || !sameSee(l[1], api.See{Kind: api.SeeRead, Level: 2, Bucket: 2, Bytes: bytesOf(2, 0)}) {
		t.Fatal(l)
	}
}

// TestWrongPlaces is P12.2: levels, buckets and texts that there aren't.
func TestWrongPlaces(t *testing.T) {
	c, d := eight(), begin(t)
	for _, x := range []struct {
		level int
		at    []int
	}{
		{-1, nil}, {3, nil}, {3, []int{1}}, {math.MaxInt, []int{1}}, {math.MinInt, []int{1}},
		{2, []int{4}}, {2, []int{0}}, {2, []int{-1}}, {2, []int{1, 2, 4}}, {1, []int{8}}, {0, []int{16}}, {0, []int{math.MaxInt}}, {0, []int{math.MinInt}}, {0, []int{0, 1}},
	} {
		if all, l, e := dev.Read(c, d, x.level, x.at); e != api.ErrArg || len(all) != 0 || len(l) != 0 {
			t.Error("Read", x, e)
		}
		texts := make([][]byte, len(x.at))
		for i := range texts {
			texts[i] = bytesOf(max(0, min(2, x.level)), 1)
		}
		if out, l, e := dev.Write(c, d, x.level, x.at, texts); e != api.ErrArg || !isNone(out) || len(l) != 0 {
			t.Error("Write", x, e)
		}
	}
	for i, texts := range [][][]byte{
		nil, {bytesOf(2, 1)}, {bytesOf(2, 1), bytesOf(2, 1), bytesOf(2, 1)}, {bytesOf(2, 1), bytesOf(0, 1)}, {bytesOf(2, 1)[:103], bytesOf(2, 1)}, {bytesOf(2, 1), nil}, {append(bytesOf(2, 1), 0), bytesOf(2, 1)},
	} {
		if out, l, e := dev.Write(c, d, 2, []int{1, 2}, texts); e != api.ErrArg || !isNone(out) || len(l) != 0 {
			t.Error("texts", i, e)
		}
	}
	if all, l, e := dev.Read(c, d, 0, nil); e != api.OK || len(all) != 0 || len(l) != 0 {
		t.Error(all, l, e)
	}
	if out, l, e := dev.Write(c, d, 0, nil, nil); e != api.OK || !dev.Same(out, d) || len(l) != 0 {
		t.Error(l, e)
	}
	if out, l, e := dev.Write(c, d, 0, []int{1, 15, 1}, [][]byte{bytesOf(0, 1), bytesOf(0, 2), bytesOf(0, 3)}); e != api.OK || out.Levels[0][0][0] != 3 || out.Levels[0][14][95] != 2 || len(l) != 3 || l[0].Bytes[0] != 1 {
		t.Error("written one behind the other:", l, e)
	}
}

// TestReplay is P12.3: writes count, reads don't, and what can't have been seen is refused.
func TestReplay(t *testing.T) {
	c, d := eight(), begin(t)
	out, e := dev.Replay(c, d, []api.See{
		{Kind: api.SeeWrite, Level: 1, Bucket: 7, Bytes: bytesOf(1, 1)},
		{Kind: api.SeeRead, Level: 1, Bucket: 1, Bytes: bytesOf(1, 2)},
		{Kind: api.SeeWrite, Level: 1, Bucket: 7, Bytes: bytesOf(1, 3)},
	})
	want := begin(t)
	want.Levels[1][6] = bytesOf(1, 3)
	if e != api.OK || !dev.Same(out, want) {
		t.Error(out, e)
	}
	if out, e := dev.Replay(c, d, nil); e != api.OK || !dev.Same(out, d) {
		t.Error(out, e)
	}
	good := api.See{Kind: api.SeeWrite, Level: 1, Bucket: 7, Bytes: bytesOf(1, 1)}
	for i, x := range []api.See{
		{},
		{Kind: 0, Level: 1, Bucket: 7, Bytes: bytesOf(1, 1)},
		{Kind: 3, Level: 1, Bucket: 7, Bytes: bytesOf(1, 1)},
		{Kind: api.SeeWrite, Level: 3, Bucket: 1, Bytes: bytesOf(1, 1)},
		{Kind: api.SeeWrite, Level: -1, Bucket: 1, Bytes: bytesOf(1, 1)},
		{Kind: api.SeeWrite, Level: 1, Bucket: 8, Bytes: bytesOf(1, 1)},
		{Kind: api.SeeWrite, Level: 1, Bucket: 0, Bytes: bytesOf(1, 1)},
		{Kind: api.SeeWrite, Level: 1, Bucket: 7, Bytes: bytesOf(0, 1)},
		{Kind: api.SeeRead, Level: 1, Bucket: 7, Bytes: bytesOf(0, 1)},
		{Kind: api.SeeRead, Level: 1, Bucket: 8, Bytes: bytesOf(1, 1)},
		{Kind: api.SeeRead, Level: 3, Bucket: 1, Bytes: bytesOf(1, 1)},
		{Kind: api.SeeRead, Level: 1, Bucket: 7},
	} {
		for _, l := range [][]api.See{{x}, {good, x}, {x, good}} {
			if out, e := dev.Replay(c, d, l); e != api.ErrArg || !isNone(out) {
				t.Error(i, e)
			}
		}
	}
}

// TestSameAndTwin is P12.1, of any devices.
func TestSameAndTwin(t *testing.T) {
	odd := api.Dev{Levels: [][][]byte{{{1, 2}, nil}, nil, {{3}}}}
	twin := dev.Twin(odd)
	if !dev.Same(odd, twin) || !dev.Same(api.Dev{}, api.Dev{Levels: [][][]byte{}}) || !isNone(dev.Twin(api.Dev{})) {
		t.Error("not the same:", twin)
	}
	twin.Levels[0][0] = append(twin.Levels[0][0], 9)
	twin.Levels[2][0][0] = 7
	twin.Levels[0][0][0] = 8
	if odd.Levels[0][0][0] != 1 || odd.Levels[2][0][0] != 3 {
		t.Error("a twin shares memory:", odd)
	}
	for i, d := range []api.Dev{
		{}, {Levels: [][][]byte{{{1, 2}, nil}, nil}}, {Levels: [][][]byte{{{1, 2}, nil}, nil, {{4}}}}, {Levels: [][][]byte{{{1, 2}}, nil, {{3}}}}, {Levels: [][][]byte{{{1}, {2}}, nil, {{3}}}}, {Levels: [][][]byte{{{1, 2}, nil}, {nil}, {{3}}}}, {Levels: [][][]byte{{{1, 2}, nil}, nil, {{3}}, nil}},
	} {
		if dev.Same(odd, d) || dev.Same(d, odd) {
			t.Error("the same:", i)
		}
	}
}

// TestMemory is P12.3: devices, texts and what is seen are all apart.
func TestMemory(t *testing.T) {
	c, d := eight(), begin(t)
	text := bytesOf(0, 5)
	out, l, _ := dev.Write(c, d, 0, []int{1, 1}, [][]byte{text, text})
	clear(text)
	clear(l[0].Bytes)
	if out.Levels[0][0][0] != 5 || l[1].Bytes[0] != 5 {
		t.Error("a write shares its text")
	}
	clear(out.Levels[0][0])
	if l[1].Bytes[0] != 5 || !dev.Same(d, begin(t)) {
		t.Error("what is seen shares the device")
	}
	out, _ = dev.Replay(c, d, l[1:])
	clear(l[1].Bytes)
	if out.Levels[0][0][0] != 5 || !dev.Same(d, begin(t)) {
		t.Error("a replay shares what was seen")
	}
	all, l, _ := dev.Read(c, out, 0, []int{1, 1})
	clear(all[0])
	if all[1][0] != 5 || l[0].Bytes[0] != 5 || out.Levels[0][0][0] != 5 {
		t.Error("a read shares memory")
	}
	clear(l[0].Bytes)
	if all[1][0] != 5 || l[1].Bytes[0] != 5 || out.Levels[0][0][0] != 5 {
		t.Error("a read shares memory")
	}
	out.Levels[0][0] = append(out.Levels[0][0], 9)
	if out.Levels[0][1][0] != 0 {
		t.Error("a bucket reaches the next one")
	}
	other, _, _ := dev.Write(c, d, 1, nil, nil)
	other.Levels[2][2][0] = 7
	if d.Levels[2][2][0] != 0 {
		t.Error("a level that is not written is shared")
	}
}

// TestFollows is P12.4: what was written is read, all else stays; what is seen makes the device.
func TestFollows(t *testing.T) {
	c := eight()
	r := rand.New(rand.NewSource(14))
	for range 50 {
		first := random(t, r)
		now := dev.Twin(first)
		plain := dev.Twin(first)
		var trace []api.See
		for range 20 {
			level := r.Intn(3)
			at := make([]int, r.Intn(5))
			texts := make([][]byte, len(at))
			for i := range at {
				at[i] = 1 + r.Intn(len(plain.Levels[level]))
				texts[i] = bytesOf(level, byte(r.Int()))
				plain.Levels[level][at[i]-1] = texts[i]
			}
			var l []api.See
			now, l, _ = dev.Write(c, now, level, at, texts)
			trace = append(trace, l...)
			all, l, e := dev.Read(c, now, level, at)
			trace = append(trace, l...)
			for i := range at {
				if e != api.OK || !bytes.Equal(all[i], plain.Levels[level][at[i]-1]) {
					t.Fatal(level, at, e)
				}
			}
		}
		again, e := dev.Replay(c, first, trace)
		if e != api.OK || !dev.Same(now, plain) || !dev.Same(again, now) {
			t.Fatal("another device", e)
		}
	}
}
