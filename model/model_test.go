package model_test

import (
	"bytes"
	"math"
	"math/rand"
	"slices"
	"testing"

	"thimblerig/api"
	"thimblerig/conf"
	"thimblerig/model"
	"thimblerig/run"
)

// two is the config of chapter 18's examples.
func two() api.Config {
	return api.Config{Pages: 2, Size: 1, Fan: 2, Slots: 1, Stash: 2, Frames: 1, Clients: 1, Queue: 1, Top: 2}
}

// pair is one of two clients, and 4 pages of 2 bytes.
func pair() api.Config {
	return api.Config{Pages: 4, Size: 2, Fan: 2, Slots: 2, Stash: 20, Frames: 2, Clients: 2, Queue: 4, Top: 2}
}

func call(kind uint8, page int, data string) api.Call {
	return api.Call{Kind: kind, Page: page, Data: []byte(data)}
}

func write(page int, data string) api.Call { return call(api.CallWrite, page, data) }
func read(page int) api.Call               { return call(api.CallRead, page, "") }

func seal() api.Call { return call(api.CallSeal, 0, "") }

func told(client, number int, data string) api.Ret {
	return api.Ret{Client: client, Call: number, Data: []byte(data)}
}

func sealed(client, number int) api.Ret { return api.Ret{Client: client, Call: number, Seal: true} }

// TestExample is that of the chapter.
func TestExample(t *testing.T) {
	calls := [][]api.Call{{write(0, "\x05"), read(0)}}
	for i, x := range []struct {
		rets  []api.Ret
		pages string
		at    int
		e     api.Errno
	}{
		{[]api.Ret{told(0, 0, ""), told(0, 1, "\x05")}, "\x05\x00", 2, api.OK},
		{[]api.Ret{told(0, 0, ""), told(0, 1, "\x04")}, "", 1, api.ErrBad},
		{[]api.Ret{told(0, 1, "\x00")}, "", 0, api.ErrBad},
		{nil, "\x00\x00", 0, api.OK},
		{[]api.Ret{told(0, 0, "")}, "\x05\x00", 1, api.OK},
	} {
		pages, at, e := model.Pages(two(), calls, x.rets, nil)
		if string(bytes.Join(pages, nil)) != x.pages || at != x.at || e != x.e || (e == api.OK) != (len(pages) == 2) {
			t.Error(i, pages, at, e)
		}
		if model.Holds(two(), calls, x.rets, nil) != (x.e == api.OK) {
			t.Error(i, "Holds")
		}
	}
}

// TestRefuses is P30.1: the config, then the calls.
func TestRefuses(t *testing.T) {
	odd := pair()
	odd.Fan = 0
	flush := call(api.CallFlush, 0, "")
	for i, x := range []struct {
		c     api.Config
		calls [][]api.Call
		e     api.Errno
	}{
		{pair(), make([][]api.Call, 2), api.OK}, {pair(), [][]api.Call{{read(-9), flush}, slices.Repeat([]api.Call{flush}, 200)}, api.OK},
		{odd, nil, api.ErrBad}, {api.Config{}, nil, api.ErrBad}, {pair(), nil, api.ErrArg}, {pair(), make([][]api.Call, 1), api.ErrArg}, {pair(), make([][]api.Call, 3), api.ErrArg},
		{pair(), [][]api.Call{{read(0)}, {flush, {}}}, api.ErrArg}, {pair(), [][]api.Call{{call(7, 0, "")}, nil}, api.ErrArg}, {pair(), [][]api.Call{{write(0, "a")}, nil}, api.ErrArg}, {pair(), [][]api.Call{{call(api.CallRead, 0, "ab")}, nil}, api.ErrArg},
	} {
		rets := []api.Ret{told(9, 9, "")}
		if x.e == api.OK {
			rets = nil
		}
		pages, at, e := model.Pages(x.c, x.calls, rets, nil)
		if e != x.e || at != 0 || (e == api.OK) != (len(pages) == 4) || model.Holds(x.c, x.calls, rets, nil) != (e == api.OK) {
			t.Error(i, pages, at, e)
		}
	}
}

// TestRets is P30.1: Rets that fit, and where the first one does not.
func TestRets(t *testing.T) {
	calls := [][]api.Call{
		{write(1, "ab"), read(1), seal(), call(api.CallFetch, 2, ""), call(api.CallFlush, 0, ""), call(api.CallUnpin, 9, "")},
		{read(1), write(4, "ab"), read(4), read(-1), write(-1, "ab"), write(math.MaxInt, "ab")},
	}
	no := func(client, number int, code api.Errno) api.Ret {
		return api.Ret{Client: client, Call: number, Code: code}
	}
	first := func(many int, more ...api.Ret) []api.Ret {
		good := []api.Ret{told(0, 0, ""), told(0, 1, "ab"), sealed(0, 2), told(0, 3, ""), told(0, 4, ""), told(0, 5, "")}
		return append(good[:many:many], more...)
	}
	for i, x := range []struct {
		rets []api.Ret
		at   int
		e    api.Errno
	}{
		{first(6), 6, api.OK}, {first(6, told(1, 0, "ab")), 7, api.OK}, {first(0, told(1, 0, "\x00\x00"), told(0, 0, "")), 2, api.OK}, {first(1, no(1, 0, api.ErrPin), no(0, 1, 77), no(0, 2, -3), no(1, 1, api.ErrPage)), 5, api.OK},
		{first(1, no(0, 1, api.ErrPin), sealed(0, 2)), 3, api.OK}, {first(0, no(0, 0, api.ErrPin), told(0, 1, "\x00\x00")), 2, api.OK},
		{first(0, told(-1, 0, "")), 0, api.ErrBad}, {first(1, told(2, 0, "")), 1, api.ErrBad}, {first(1, told(math.MinInt, 0, "")), 1, api.ErrBad}, {first(1, told(0, 0, "")), 1, api.ErrBad}, {first(1, told(0, 2, "")), 1, api.ErrBad}, {first(0, told(0, -1, "")), 0, api.ErrBad}, {first(0, told(1, 1, "")), 0, api.ErrBad},
		{first(6, told(0, 6, "")), 6, api.ErrBad}, {first(6, no(0, 6, api.ErrPin)), 6, api.ErrBad}, {first(6, no(0, 5, api.ErrPin)), 6, api.ErrBad},
		{first(1, told(0, 1, "ac")), 1, api.ErrBad}, {first(1, told(0, 1, "")), 1, api.ErrBad}, {first(1, told(0, 1, "abc")), 1, api.ErrBad}, {first(0, told(1, 0, "ab")), 0, api.ErrBad}, {first(1, told(1, 0, "\x00\x00")), 1, api.ErrBad},
		{first(0, api.Ret{Seal: true}), 0, api.ErrBad}, {first(1, api.Ret{Call: 1, Data: []byte("ab"), Seal: true}), 1, api.ErrBad}, {first(2, told(0, 2, "")), 2, api.ErrBad}, {first(3, sealed(0, 3)), 3, api.ErrBad}, {first(4, sealed(0, 4)), 4, api.ErrBad}, {first(5, sealed(0, 5)), 5, api.ErrBad},
		{first(1, api.Ret{Call: 1, Code: api.ErrPin, Data: []byte("ab")}), 1, api.ErrBad}, {first(2, api.Ret{Call: 2, Code: api.ErrBusy, Seal: true}), 2, api.ErrBad}, {first(0, api.Ret{Code: api.ErrBusy, Seal: true}), 0, api.ErrBad},
		{first(1, told(1, 0, "ab"), told(1, 1, "")), 2, api.ErrBad}, {first(1, told(1, 0, "ab"), no(1, 1, 261), told(1, 2, "")), 3, api.ErrBad}, {first(1, told(1, 0, "ab"), no(1, 1, 261), no(1, 2, 261), told(1, 3, "")), 4, api.ErrBad},
		{first(1, told(1, 0, "ab"), no(1, 1, 261), no(1, 2, 261), no(1, 3, 261), told(1, 4, "")), 5, api.ErrBad}, {first(1, told(1, 0, "ab"), no(1, 1, 261), no(1, 2, 261), no(1, 3, 261), no(1, 4, 261), told(1, 5, "")), 6, api.ErrBad},
		{first(1, told(0, 1, "ac"), told(9, 9, "")), 1, api.ErrBad},
	} {
		pages, at, e := model.Pages(pair(), calls, x.rets, nil)
		if at != x.at || e != x.e || (e == api.OK) != (len(pages) == 4) || model.Holds(pair(), calls, x.rets, nil) != (e == api.OK) {
			t.Error(i, pages, at, e)
		}
	}
	pages, _, _ := model.Pages(pair(), calls, first(2), nil)
	if string(bytes.Join(pages, nil)) != "\x00\x00ab\x00\x00\x00\x00" {
		t.Error(pages)
	}
}

// TestOpens is P30.1: openings make the map what it was, when their turn comes, or don't fit.
func TestOpens(t *testing.T) {
	calls := [][]api.Call{{seal(), write(1, "ab"), seal(), write(1, "cd"), read(1)}, nil}
	rets := func(last string) []api.Ret {
		return []api.Ret{sealed(0, 0), told(0, 1, ""), sealed(0, 2), told(0, 3, ""), told(0, 4, last)}
	}
	open := func(token, rets int, code api.Errno) api.Opening {
		return api.Opening{Token: token, Rets: rets, Code: code}
	}
	none := "\x00\x00"
	for i, x := range []struct {
		opens []api.Opening
		read  string
		last  string
		at    int
		e     api.Errno
	}{
		{nil, "cd", "cd", 5, api.OK},
		{[]api.Opening{open(1, 4, 0)}, "ab", "ab", 5, api.OK},
		{[]api.Opening{open(0, 4, 0)}, none, none, 5, api.OK},
		{[]api.Opening{open(0, 4, 0), open(1, 4, 0)}, "ab", "ab", 5, api.OK},
		{[]api.Opening{open(1, 4, 0), open(0, 4, 0)}, none, none, 5, api.OK},
		{[]api.Opening{open(0, 3, 0)}, "cd", "cd", 5, api.OK},
		{[]api.Opening{open(0, 5, 0)}, "cd", none, 5, api.OK},
		{[]api.Opening{open(0, 1, 0), open(0, 2, 0), open(1, 5, 0)}, "cd", none, 5, api.OK},
		{[]api.Opening{open(0, 4, 110), open(-9, 4, 9), open(99, 5, -1)}, "cd", "cd", 5, api.OK},
		{[]api.Opening{open(0, 0, 110)}, "cd", "cd", 5, api.OK},
		{[]api.Opening{open(0, 4, 0)}, "cd", "", 4, api.ErrBad},
		{[]api.Opening{open(0, 0, 0)}, "cd", "", 0, api.ErrBad},
		{[]api.Opening{open(1, 1, 0)}, "cd", "", 1, api.ErrBad},
		{[]api.Opening{open(1, 2, 0)}, "cd", "", 2, api.ErrBad},
		{[]api.Opening{open(1, 3, 0)}, "cd", "cd", 5, api.OK},
		{[]api.Opening{open(2, 5, 0)}, "cd", "", 5, api.ErrBad},
		{[]api.Opening{open(2, 4, 0)}, "cd", "", 4, api.ErrBad},
		{[]api.Opening{open(-1, 4, 0)}, "cd", "", 4, api.ErrBad},
		{[]api.Opening{open(math.MinInt, 4, 0)}, "cd", "", 4, api.ErrBad},
		{[]api.Opening{open(math.MaxInt, 4, 0)}, "cd", "", 4, api.ErrBad},
		{[]api.Opening{open(0, 6, 0)}, "cd", "", 5, api.ErrBad},
		{[]api.Opening{open(0, 6, 110)}, "cd", "", 5, api.ErrBad},
		{[]api.Opening{open(0, math.MaxInt, 110)}, "cd", "", 5, api.ErrBad},
		{[]api.Opening{open(0, -1, 110)}, "cd", "", 5, api.ErrBad},
		{[]api.Opening{open(0, 5, 110), open(0, 4, 110)}, "cd", "", 5, api.ErrBad},
		{[]api.Opening{open(0, 5, 110), open(0, 4, 0)}, "cd", "", 5, api.ErrBad},
		{[]api.Opening{open(0, 6, 110)}, "xx", "", 4, api.ErrBad},
	} {
		pages, at, e := model.Pages(pair(), calls, rets(x.read), x.opens)
		if at != x.at || e != x.e || (e == api.OK) != (len(pages) == 4) || model.Holds(pair(), calls, rets(x.read), x.opens) != (e == api.OK) {
			t.Error(i, pages, at, e)
		}
		if e == api.OK && string(pages[1]) != x.last {
			t.Error(i, pages)
		}
	}
	// What is sealed behind an opening is what the opening brought back.
	calls = [][]api.Call{{write(0, "ab"), seal(), write(0, "cd"), seal(), write(0, "ef"), read(0)}, {}}
	all := []api.Ret{told(0, 0, ""), sealed(0, 1), told(0, 2, ""), sealed(0, 3), told(0, 4, ""), told(0, 5, "ab")}
	if pages, at, e := model.Pages(pair(), calls, all, []api.Opening{open(0, 3, 0), open(1, 5, 0)}); e != api.OK || at != 6 || string(pages[0]) != "ab" {
		t.Error(pages, at, e)
	}
}

// TestMemory is P30.2.
func TestMemory(t *testing.T) {
	calls := [][]api.Call{{write(0, "ab"), seal()}, nil}
	rets := []api.Ret{told(0, 0, ""), sealed(0, 1)}
	opens := []api.Opening{{Token: 0, Rets: 2}, {Token: 0, Rets: 2}}
	for _, opens := range [][]api.Opening{nil, opens} {
		pages, _, e := model.Pages(pair(), calls, rets, opens)
		if e != api.OK {
			t.Fatal(e)
		}
		clear(pages[0])
		pages[1] = append(pages[1], 1, 2, 3)
		if string(calls[0][0].Data) != "ab" || !bytes.Equal(pages[2], []byte{0, 0}) {
			t.Error("memory is shared")
		}
		pages, _, _ = model.Pages(pair(), calls, rets, opens)
		calls[0][0].Data[0] = 'x'
		if string(pages[0]) != "ab" {
			t.Error("a page shares its call's data")
		}
		calls[0][0].Data[0] = 'a'
	}
}

// scriptOf is a script of picks and ticks, and of openings, if it may have such.
func scriptOf(r *rand.Rand, opens bool) api.Script {
	c := pair()
	s := api.Script{Config: c, Source: api.Source{Kind: api.FromChacha}, Calls: make([][]api.Call, c.Clients)}
	levels, _ := conf.Levels(c)
	for range levels {
		var l api.Lane
		for range 150 + r.Intn(200) {
			l.Cells = append(l.Cells, r.Uint32())
		}
		s.Lanes = append(s.Lanes, l)
	}
	for client := range s.Calls {
		for range 60 {
			x := call([]uint8{1, 1, 1, 2, 2, 3, 3, 4, 4, 4, 5, 6, 6}[r.Intn(13)], r.Intn(c.Pages), "")
			if x.Kind == api.CallWrite {
				x.Data = []byte{byte(r.Int()), byte(r.Int())}
			}
			s.Calls[client] = append(s.Calls[client], x)
		}
	}
	for range 250 {
		x := api.Step{Kind: api.StepPick, N: r.Intn(c.Clients)}
		switch n := r.Intn(24); {
		case n < 10:
			x = api.Step{Kind: api.StepTick}
		case n == 23 && opens:
			x = api.Step{Kind: api.StepOpen, N: r.Intn(3)}
		}
		s.Steps = append(s.Steps, x)
	}
	return s
}

// TestFollows is P30.3, and theorems A and F: worlds fit; and data that were turned don't.
func TestFollows(t *testing.T) {
	r := rand.New(rand.NewSource(55))
	reads, opened := 0, 0
	for i := range 30 {
		s := scriptOf(r, i%2 == 1)
		w, e := run.Run(s)
		if e != api.OK {
			t.Fatal(e)
		}
		opened += len(w.Opens)
		pages, at, e := model.Pages(s.Config, s.Calls, w.Sess.Rets, w.Opens)
		if e != api.OK || at != len(w.Sess.Rets) || len(pages) != 4 || !model.Holds(s.Config, s.Calls, w.Sess.Rets, w.Opens) {
			t.Fatal("a world does not fit", at, e)
		}
		for n, x := range w.Sess.Rets {
			if x.Code != api.OK || s.Calls[x.Client][x.Call].Kind != api.CallRead {
				continue
			}
			reads++
			x.Data[1] ^= 4
			if pages, at, e := model.Pages(s.Config, s.Calls, w.Sess.Rets, w.Opens); e != api.ErrBad || at != n || len(pages) != 0 {
				t.Fatal("turned data fit", n, at, e)
			}
			x.Data[1] ^= 4
		}
	}
	if reads < 50 || opened < 5 {
		t.Error("too few reads, or openings:", reads, opened)
	}
}
