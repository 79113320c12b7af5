package harm_test

import (
	"bytes"
	"math"
	"math/rand"
	"testing"

	"thimblerig/api"
	"thimblerig/dev"
	"thimblerig/harm"
)

// eight is the config of chapter 8's examples: levels of 15, 7 and 3 buckets, of 96, 104 and 104 bytes.
func eight() api.Config {
	return api.Config{Pages: 8, Size: 4, Fan: 2, Slots: 2, Stash: 8, Frames: 2, Clients: 2, Queue: 4, Top: 2}
}

func bytesOf(level int, with byte) []byte {
	return bytes.Repeat([]byte{with}, []int{96, 104, 104}[level])
}

func write(level, bucket int, with byte) api.See {
	return api.See{Kind: api.SeeWrite, Level: level, Bucket: bucket, Bytes: bytesOf(level, with)}
}

func read(level, bucket int, with byte) api.See {
	return api.See{Kind: api.SeeRead, Level: level, Bucket: bucket, Bytes: bytesOf(level, with)}
}

// trace is what was seen of a device: bucket 1 of level 0 was written twice, bucket 3 of level 2 once, bucket 2 of level 1 thrice.
func trace() []api.See {
	return []api.See{
		write(0, 1, 'x'), read(0, 1, 'q'), write(1, 2, 'a'), write(0, 1, 'y'), write(2, 3, 'z'), read(0, 9, 'r'), write(1, 2, 'b'), write(1, 2, 'c'),
	}
}

// device is one that has what the trace wrote.
func device(t *testing.T) api.Dev {
	d, e := dev.New(eight())
	if e != api.OK {
		t.Fatal(e)
	}
	d.Levels[0][0], d.Levels[1][1], d.Levels[2][2] = bytesOf(0, 'y'), bytesOf(1, 'c'), bytesOf(2, 'z')
	return d
}

// TestVersions is P13.1, of any list.
func TestVersions(t *testing.T) {
	for _, x := range []struct {
		level, bucket int
		want          string
	}{
		{0, 1, "xy"}, {1, 2, "abc"}, {2, 3, "z"}, {0, 9, ""}, {0, 2, ""}, {2, 1, ""}, {-1, 1, ""}, {math.MaxInt, math.MinInt, ""},
	} {
		all := harm.Versions(trace(), x.level, x.bucket)
		if len(all) != len(x.want) {
			t.Error(x, len(all))
			continue
		}
		for i := range all {
			if !bytes.Equal(all[i], bytesOf(x.level, x.want[i])) {
				t.Error(x, i, all[i])
			}
		}
	}
	odd := []api.See{{Kind: api.SeeWrite, Level: -7, Bucket: math.MaxInt, Bytes: []byte{1, 2}}, {Kind: 3, Level: -7, Bucket: math.MaxInt, Bytes: []byte{3}}, {Kind: 0, Level: -7, Bucket: math.MaxInt}, {Kind: api.SeeWrite, Level: -7, Bucket: math.MaxInt}}
	all := harm.Versions(odd, -7, math.MaxInt)
	if len(all) != 2 || !bytes.Equal(all[0], []byte{1, 2}) || len(all[1]) != 0 || len(harm.Versions(nil, 0, 1)) != 0 {
		t.Error(all)
	}
	clear(all[0])
	if odd[0].Bytes[0] != 1 {
		t.Error("a version shares what was seen")
	}
}

// TestDo is P13.2: what each kind does.
func TestDo(t *testing.T) {
	for name, x := range map[string]struct {
		h    api.Harm
		turn func(d api.Dev)
	}{
		"flip":             {api.Harm{Kind: api.HarmFlip, Level: 0, A: 1, At: 5, Mask: 3}, func(d api.Dev) { d.Levels[0][0][5] = 'y' ^ 3 }},
		"flip the first":   {api.Harm{Kind: api.HarmFlip, Level: 2, A: 3, B: 99, At: 0, Mask: 255}, func(d api.Dev) { d.Levels[2][2][0] = 'z' ^ 255 }},
		"flip the last":    {api.Harm{Kind: api.HarmFlip, Level: 0, A: 15, B: -1, At: 95, Mask: 128}, func(d api.Dev) { d.Levels[0][14][95] = 128 }},
		"swap":             {api.Harm{Kind: api.HarmSwap, Level: 1, A: 2, B: 7, At: -5}, func(d api.Dev) { d.Levels[1][1], d.Levels[1][6] = d.Levels[1][6], d.Levels[1][1] }},
		"swap back":        {api.Harm{Kind: api.HarmSwap, Level: 1, A: 1, B: 2}, func(d api.Dev) { d.Levels[1][1], d.Levels[1][0] = d.Levels[1][0], d.Levels[1][1] }},
		"swap with itself": {api.Harm{Kind: api.HarmSwap, Level: 1, A: 2, B: 2}, func(d api.Dev) {}},
		"the oldest":       {api.Harm{Kind: api.HarmOld, Level: 1, A: 2, At: 0, B: 77}, func(d api.Dev) { d.Levels[1][1] = bytesOf(1, 'a') }},
		"an old one":       {api.Harm{Kind: api.HarmOld, Level: 0, A: 1, At: 0}, func(d api.Dev) { d.Levels[0][0] = bytesOf(0, 'x') }},
		"the newest":       {api.Harm{Kind: api.HarmOld, Level: 0, A: 1, At: 1, Mask: 4}, func(d api.Dev) {}},
		"drop of two":      {api.Harm{Kind: api.HarmDrop, Level: 0, A: 1, At: -9}, func(d api.Dev) { d.Levels[0][0] = bytesOf(0, 'x') }},
		"drop of three":    {api.Harm{Kind: api.HarmDrop, Level: 1, A: 2, At: 99, B: -1}, func(d api.Dev) { d.Levels[1][1] = bytesOf(1, 'b') }},
		"drop of one":      {api.Harm{Kind: api.HarmDrop, Level: 2, A: 3}, func(d api.Dev) { d.Levels[2][2] = bytesOf(2, 0) }},
		"crash at none": {api.Harm{Kind: api.HarmCrash, At: 0, Level: -1, A: -1, B: 99}, func(d api.Dev) {
			d.Levels[0][0], d.Levels[1][1], d.Levels[2][2] = bytesOf(0, 0), bytesOf(1, 0), bytesOf(2, 0)
		}},
		"crash at one": {api.Harm{Kind: api.HarmCrash, At: 1}, func(d api.Dev) {
			d.Levels[0][0], d.Levels[1][1], d.Levels[2][2] = bytesOf(0, 'x'), bytesOf(1, 0), bytesOf(2, 0)
		}},
		"crash at three": {api.Harm{Kind: api.HarmCrash, At: 3}, func(d api.Dev) { d.Levels[1][1], d.Levels[2][2] = bytesOf(1, 'a'), bytesOf(2, 0) }},
		"crash at all":   {api.Harm{Kind: api.HarmCrash, At: 6}, func(d api.Dev) {}},
	} {
		d, l := device(t), trace()
		out, e := harm.Do(eight(), d, l, x.h)
		want := device(t)
		x.turn(want)
		if e != api.OK || !dev.Same(out, want) {
			t.Error(name, e)
		}
		if !dev.Same(d, device(t)) {
			t.Error(name, "turns what was handed in")
		}
		for _, level := range out.Levels {
			for _, b := range level {
				clear(b)
			}
		}
		for i, see := range trace() {
			if !bytes.Equal(see.Bytes, l[i].Bytes) || !dev.Same(d, device(t)) {
				t.Error(name, "shares what was handed in")
			}
		}
	}
}

// TestRefused is P13.2: harms that may not be.
func TestRefused(t *testing.T) {
	for _, h := range []api.Harm{
		{}, {Kind: 6, Level: 0, A: 1, B: 1, At: 0, Mask: 1}, {Kind: 255}, {Kind: 0, Level: 0, A: 1, B: 1, Mask: 1},
		{Kind: api.HarmFlip, Level: 0, A: 1, At: 0, Mask: 0}, {Kind: api.HarmFlip, Level: 0, A: 1, At: 96, Mask: 1}, {Kind: api.HarmFlip, Level: 0, A: 1, At: -1, Mask: 1}, {Kind: api.HarmFlip, Level: 1, A: 1, At: 104, Mask: 1}, {Kind: api.HarmFlip, Level: 0, A: 1, At: math.MaxInt, Mask: 1},
		{Kind: api.HarmFlip, Level: 0, A: 0, At: 0, Mask: 1}, {Kind: api.HarmFlip, Level: 0, A: 16, At: 0, Mask: 1}, {Kind: api.HarmFlip, Level: 3, A: 1, At: 0, Mask: 1}, {Kind: api.HarmFlip, Level: -1, A: 1, At: 0, Mask: 1}, {Kind: api.HarmFlip, Level: 2, A: 4, At: 0, Mask: 1},
		{Kind: api.HarmSwap, Level: 0, A: 1, B: 16}, {Kind: api.HarmSwap, Level: 0, A: 16, B: 1}, {Kind: api.HarmSwap, Level: 0, A: 0, B: 1}, {Kind: api.HarmSwap, Level: 0, A: 1, B: 0}, {Kind: api.HarmSwap, Level: 3, A: 1, B: 1}, {Kind: api.HarmSwap, Level: 0, A: 1, B: math.MinInt},
		{Kind: api.HarmOld, Level: 0, A: 1, At: 2}, {Kind: api.HarmOld, Level: 0, A: 1, At: -1}, {Kind: api.HarmOld, Level: 0, A: 2, At: 0}, {Kind: api.HarmOld, Level: 2, A: 3, At: 1}, {Kind: api.HarmOld, Level: 9, A: 3, At: 0}, {Kind: api.HarmOld, Level: 0, A: 99, At: 0}, {Kind: api.HarmOld, Level: 0, A: 1, At: math.MaxInt}, {Kind: api.HarmOld, Level: 0, A: 1, At: math.MinInt}, {Kind: api.HarmOld, Level: 0, A: 9, At: 0},
		{Kind: api.HarmDrop, Level: 0, A: 2}, {Kind: api.HarmDrop, Level: 0, A: 9}, {Kind: api.HarmDrop, Level: 3, A: 1}, {Kind: api.HarmDrop, Level: 0, A: 0}, {Kind: api.HarmDrop, Level: -1, A: -1},
		{Kind: api.HarmCrash, At: 7}, {Kind: api.HarmCrash, At: -1}, {Kind: api.HarmCrash, At: math.MaxInt}, {Kind: api.HarmCrash, At: math.MinInt},
	} {
		if out, e := harm.Do(eight(), device(t), trace(), h); e != api.ErrArg || len(out.Levels) != 0 {
			t.Error(h, e)
		}
	}
}

// TestReplayFirst is P13.2: dev.Replay's error comes first.
func TestReplayFirst(t *testing.T) {
	good := api.Harm{Kind: api.HarmCrash}
	c := eight()
	c.Top = 0
	for _, h := range []api.Harm{good, {}} {
		if out, e := harm.Do(c, device(t), trace(), h); e != api.ErrBad || len(out.Levels) != 0 {
			t.Error(e)
		}
		if out, e := harm.Do(eight(), api.Dev{}, trace(), h); e != api.ErrBad || len(out.Levels) != 0 {
			t.Error(e)
		}
		if out, e := harm.Do(eight(), device(t), append(trace(), write(0, 16, 1)), h); e != api.ErrArg || len(out.Levels) != 0 {
			t.Error(e)
		}
	}
	if out, e := harm.Do(eight(), device(t), []api.See{{Kind: 9}}, good); e != api.ErrArg || len(out.Levels) != 0 {
		t.Error(e)
	}
}

// TestFollows is P13.4, of harms and devices of all kinds.
func TestFollows(t *testing.T) {
	r := rand.New(rand.NewSource(15))
	c := eight()
	for range 100 {
		first, _ := dev.New(c)
		d := first
		var l []api.See
		for range r.Intn(20) {
			level := r.Intn(3)
			var more []api.See
			d, more, _ = dev.Write(c, d, level, []int{1 + r.Intn(3)}, [][]byte{bytesOf(level, byte(r.Int()))})
			l = append(l, more...)
		}
		for kind := api.HarmFlip; kind <= api.HarmDrop; kind++ {
			h := api.Harm{Kind: kind, Level: r.Intn(3), A: 1 + r.Intn(3), B: 1 + r.Intn(3), At: r.Intn(3), Mask: byte(1 + r.Intn(255))}
			once, e := harm.Do(c, d, l, h)
			if e != api.OK {
				continue
			}
			for i, level := range once.Levels {
				for j := range level {
					named := i == h.Level && (j+1 == h.A || kind == api.HarmSwap && j+1 == h.B)
					if !named && !bytes.Equal(level[j], d.Levels[i][j]) {
						t.Fatal("turned what is not named:", h, i, j)
					}
				}
			}
			twice, e := harm.Do(c, once, l, h)
			if kind <= api.HarmSwap && (e != api.OK || !dev.Same(twice, d)) {
				t.Fatal(h, e)
			}
		}
		if out, e := harm.Do(c, first, l, api.Harm{Kind: api.HarmCrash, At: len(l)}); e != api.OK || !dev.Same(out, d) {
			t.Fatal("a crash behind all writes", e)
		}
	}
}
