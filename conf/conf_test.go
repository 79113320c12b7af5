package conf_test

import (
	"math"
	"slices"
	"testing"

	"thimblerig/api"
	"thimblerig/conf"
)

// eight is the config of the chapter's examples.
func eight() api.Config {
	return api.Config{Pages: 8, Size: 4, Fan: 2, Slots: 2, Stash: 8, Frames: 2, Clients: 2, Queue: 4, Top: 2}
}

// all yields configs of all that tells levels.
func all(visit func(api.Config)) {
	for pages := 1; pages <= api.MaxPages; pages++ {
		for fan := api.MinFan; fan <= api.MaxFan; fan++ {
			for top := 1; top <= api.MaxTop; top++ {
				for slots := 1; slots <= api.MaxSlots; slots++ {
					visit(api.Config{Pages: pages, Size: 1 + (pages*7+fan)%32, Fan: fan, Slots: slots, Stash: 1, Frames: 1, Clients: 1, Queue: 1, Top: top})
				}
			}
		}
	}
}

// plain are a config's levels, as the chapter says.
func plain(c api.Config) []api.Level {
	var out []api.Level
	for blocks, size := c.Pages, c.Size; ; size = 4 * c.Fan {
		high := 1
		for 1<<high < blocks {
			high++
		}
		out = append(out, api.Level{Blocks: blocks, Size: size, High: high, Width: c.Slots*(8+size) + 64})
		if blocks <= c.Top {
			return out
		}
		more := 0
		if blocks%c.Fan > 0 {
			more = 1
		}
		blocks = blocks/c.Fan + more
	}
}

// TestExamples are those of the chapter.
func TestExamples(t *testing.T) {
	c := eight()
	want := []api.Level{{Blocks: 8, Size: 4, High: 3, Width: 88}, {Blocks: 4, Size: 8, High: 2, Width: 96}, {Blocks: 2, Size: 8, High: 1, Width: 96}}
	if l, e := conf.Levels(c); e != api.OK || !slices.Equal(l, want) {
		t.Error(l, e)
	}
	if w, e := conf.Width(c); w != 96 || e != api.OK {
		t.Error(w, e)
	}
	if first, tick, e := conf.Seals(c); first != 25 || tick != 18 || e != api.OK {
		t.Error(first, tick, e)
	}
	if blocks, places, e := conf.Road(c, 5); e != api.OK || !slices.Equal(blocks, []int{5, 2, 1}) || !slices.Equal(places, []int{1, 0, 1}) {
		t.Error(blocks, places, e)
	}
}

// fields are a config's numbers, with their bounds.
func fields(c *api.Config) map[*int][2]int {
	return map[*int][2]int{
		&c.Pages: {1, 64}, &c.Size: {1, 32}, &c.Fan: {2, 8}, &c.Slots: {1, 4}, &c.Stash: {1, 64}, &c.Frames: {1, 8}, &c.Clients: {1, 4}, &c.Queue: {1, 16}, &c.Top: {1, 16},
	}
}

// refused tells whether all calls refuse a config.
func refused(c api.Config) bool {
	e1 := conf.Check(c)
	l, e2 := conf.Levels(c)
	w, e3 := conf.Width(c)
	first, tick, e4 := conf.Seals(c)
	blocks, places, e5 := conf.Road(c, 0)
	_, _, e6 := conf.Road(c, -1)
	for _, e := range []api.Errno{e1, e2, e3, e4, e5, e6} {
		if e != api.ErrBad {
			return false
		}
	}
	return len(l) == 0 && w == 0 && first == 0 && tick == 0 && len(blocks) == 0 && len(places) == 0
}

// TestBounds is P8.1, at the edges of each number.
func TestBounds(t *testing.T) {
	var c api.Config
	if !refused(c) {
		t.Error("noughts may be")
	}
	c = eight()
	for field, edges := range fields(&c) {
		was := *field
		for _, n := range edges {
			*field = n
			if e := conf.Check(c); e != api.OK && c.Pages <= 32 {
				t.Error(c, e)
			}
		}
		for _, n := range []int{edges[0] - 1, edges[1] + 1, -1, math.MinInt, math.MaxInt} {
			*field = n
			if !refused(c) {
				t.Error("may be:", c)
			}
		}
		*field = was
	}
	c = eight()
	c.Pages, c.Top = 64, 16
	if e := conf.Check(c); e != api.OK {
		t.Error(e)
	}
}

// TestLevels is P8.1, P8.2 and P8.4, of all configs.
func TestLevels(t *testing.T) {
	all(func(c api.Config) {
		want := plain(c)
		if len(want) > 4 {
			if !refused(c) {
				t.Fatal("too many levels:", c)
			}
			return
		}
		l, e := conf.Levels(c)
		if e != api.OK || !slices.Equal(l, want) || conf.Check(c) != api.OK {
			t.Fatal(c, l, e)
		}
		widest, total, rows := 0, 0, 0
		for i, x := range want {
			widest, total, rows = max(widest, x.Width), total+1<<(x.High+1)-1, rows+x.High+1
			if (x.Blocks <= c.Top) != (i == len(want)-1) {
				t.Fatal("the last level alone has so few:", c, l)
			}
		}
		if w, e := conf.Width(c); w != widest || e != api.OK {
			t.Fatal(c, w, e)
		}
		first, tick, e := conf.Seals(c)
		if first != total || tick != 2*rows || e != api.OK {
			t.Fatal(c, first, tick, e)
		}
	})
}

// TestLevelsAtTheEdge is P8.1: four levels may be, five not.
func TestLevelsAtTheEdge(t *testing.T) {
	c := eight()
	c.Pages, c.Top = 64, 8
	if l, e := conf.Levels(c); e != api.OK || len(l) != 4 {
		t.Error(l, e)
	}
	c.Top = 7
	if !refused(c) {
		t.Error("five levels may be")
	}
	c.Top = 1
	if !refused(c) {
		t.Error("seven levels may be")
	}
	c.Pages, c.Top = 1, 1
	if l, e := conf.Levels(c); e != api.OK || !slices.Equal(l, []api.Level{{Blocks: 1, Size: 4, High: 1, Width: 88}}) {
		t.Error(l, e)
	}
}

// TestRoad is P8.2 and P8.4: pages' roads, and how they meet.
func TestRoad(t *testing.T) {
	all(func(c api.Config) {
		l, e := conf.Levels(c)
		if e != api.OK || c.Slots != 1 {
			return
		}
		var roads [][]int
		for page := range c.Pages {
			blocks, places, e := conf.Road(c, page)
			if e != api.OK || len(blocks) != len(l) || len(places) != len(l) || blocks[0] != page {
				t.Fatal(c, page, blocks, places, e)
			}
			at := page
			for i := range l {
				if blocks[i] != at || blocks[i] >= l[i].Blocks {
					t.Fatal(c, page, blocks)
				}
				if i == len(l)-1 && places[i] != at || i < len(l)-1 && places[i] != at%c.Fan {
					t.Fatal(c, page, places)
				}
				at /= c.Fan
			}
			// The road tells its page: from the last level's place down.
			told := places[len(l)-1]
			for i := len(l) - 2; i >= 0; i-- {
				told = told*c.Fan + places[i]
			}
			if told != page {
				t.Fatal(c, page, places)
			}
			roads = append(roads, blocks)
		}
		for i := 1; i < len(l); i++ {
			for a := range roads {
				b := (a*3 + 1) % len(roads)
				if roads[a][i-1] == roads[b][i-1] && roads[a][i] != roads[b][i] {
					t.Fatal(c, a, b)
				}
			}
		}
	})
	for _, page := range []int{-1, 8, 9, math.MinInt, math.MaxInt} {
		if blocks, places, e := conf.Road(eight(), page); e != api.ErrPage || len(blocks) != 0 || len(places) != 0 {
			t.Error(page, blocks, places, e)
		}
	}
}

// TestMemory is P8.3.
func TestMemory(t *testing.T) {
	c := eight()
	l, _ := conf.Levels(c)
	l[0].Blocks = 99
	blocks, places, _ := conf.Road(c, 5)
	clear(blocks)
	if !slices.Equal(places, []int{1, 0, 1}) {
		t.Error("blocks and places are shared")
	}
	clear(places)
	again, _ := conf.Levels(c)
	b2, p2, _ := conf.Road(c, 5)
	if again[0].Blocks != 8 || b2[0] != 5 || p2[0] != 1 {
		t.Error("something is kept")
	}
}
