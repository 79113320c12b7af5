package clash_test

import (
	"math"
	"math/rand"
	"slices"
	"testing"

	"thimblerig/api"
	"thimblerig/clash"
	"thimblerig/conf"
	"thimblerig/model"
	"thimblerig/run"
	"thimblerig/seal"
)

// pair is a config of two clients, and 4 pages of 2 bytes.
func pair() api.Config {
	return api.Config{Pages: 4, Size: 2, Fan: 2, Slots: 2, Stash: 20, Frames: 2, Clients: 2, Queue: 4, Top: 2}
}

func see(level, bucket int, text string) api.See {
	return api.See{Kind: api.SeeWrite, Level: level, Bucket: bucket, Bytes: []byte(text)}
}

// TestFindNone is P31.1: traces that show no clash: alike texts, unlike ones, other places, and such as there aren't.
func TestFindNone(t *testing.T) {
	for i, l := range [][]api.See{
		nil,
		{see(0, 1, "a"), see(0, 1, "b"), see(0, 1, "a")},
		{see(0, 1, "a"), see(0, 2, "a"), see(1, 1, "a"), see(1, 2, "")},
		{see(0, 1, ""), see(0, 1, ""), {Kind: 9, Level: 0, Bucket: 1, Bytes: []byte("x")}},
		{see(4, 1, "a"), see(4, 1, "b"), see(-1, 1, "a"), see(0, 128, "b"), see(0, 0, "a"), see(0, 0, "b"), see(math.MaxInt, math.MinInt, "a"), see(256, 257, "a")},
	} {
		level, bucket, a, b, e := clash.Find(l)
		if e != api.ErrNone || level != 0 || bucket != 0 || len(a) != 0 || len(b) != 0 {
			t.Error(i, level, bucket, a, b, e)
		}
	}
}

// TestCheck is P31.1: what is no clash. (No two texts of one digest are known.)
func TestCheck(t *testing.T) {
	a, _ := seal.Hashed(0, 1, []byte("a"))
	b, _ := seal.Hashed(0, 1, []byte("b"))
	other, _ := seal.Hashed(1, 1, []byte("a"))
	bare, _ := seal.Hashed(0, 1, nil)
	for i, x := range []struct {
		level, bucket int
		a, b          []byte
	}{
		{0, 1, a, b}, {0, 1, a, a}, {0, 1, a, slices.Clone(a)}, {0, 1, a, other}, {1, 1, other, other}, {0, 1, bare, bare}, {0, 1, bare, a}, {0, 1, nil, nil}, {0, 1, nil, a}, {0, 1, []byte{0, 1, 0, 0}, a}, {0, 1, []byte("a"), []byte("b")},
		{4, 1, a, b}, {0, 128, a, b}, {-1, 0, nil, []byte{1}}, {math.MinInt, math.MaxInt, a, b}, {0, 2, a, b},
	} {
		if clash.Check(x.level, x.bucket, x.a, x.b) || clash.Check(x.level, x.bucket, x.b, x.a) {
			t.Error("a clash:", i)
		}
	}
}

// TestMemory is P31.2.
func TestMemory(t *testing.T) {
	l := []api.See{see(0, 1, "a"), see(0, 1, "b")}
	a, _ := seal.Hashed(0, 1, []byte("a"))
	b, _ := seal.Hashed(0, 1, []byte("b"))
	clash.Find(l)
	clash.Check(0, 1, a, b)
	if string(l[0].Bytes) != "a" || string(l[1].Bytes) != "b" || string(a[5:]) != "a" || string(b[5:]) != "b" || l[0].Bucket != 1 {
		t.Error("turned what was handed in")
	}
}

// scriptOf is a script of all that may happen.
func scriptOf(r *rand.Rand) api.Script {
	c := pair()
	s := api.Script{Config: c, Source: api.Source{Kind: api.FromChacha, Key: api.Key{byte(r.Int())}}, Calls: make([][]api.Call, c.Clients)}
	levels, _ := conf.Levels(c)
	for range levels {
		var l api.Lane
		for range 300 {
			l.Cells = append(l.Cells, r.Uint32())
		}
		s.Lanes = append(s.Lanes, l)
	}
	for client := range s.Calls {
		for range 60 {
			x := api.Call{Kind: []uint8{1, 1, 1, 2, 2, 3, 3, 4, 4, 4, 5, 6, 6}[r.Intn(13)], Page: r.Intn(c.Pages)}
			if x.Kind == api.CallWrite {
				x.Data = []byte{byte(r.Int()), byte(r.Int())}
			}
			s.Calls[client] = append(s.Calls[client], x)
		}
	}
	// The first call seals; then that token may be opened, or brought back behind ticks by a crash.
	s.Calls[0][0] = api.Call{Kind: api.CallSeal}
	first, _, _ := conf.Seals(c)
	s.Steps = []api.Step{{Kind: api.StepPick}, {Kind: api.StepTick}, {Kind: api.StepHarm, Harm: api.Harm{Kind: api.HarmCrash, At: first}}, {Kind: api.StepOpen}}
	for range 250 {
		x := api.Step{Kind: api.StepPick, N: r.Intn(c.Clients)}
		switch n := r.Intn(40); {
		case n < 16:
			x = api.Step{Kind: api.StepTick}
		case n == 16:
			x = api.Step{Kind: api.StepHarm, Harm: api.Harm{Kind: uint8(1 + r.Intn(5)), Level: r.Intn(2), A: 1 + r.Intn(7), B: 1 + r.Intn(3), At: r.Intn(90), Mask: uint8(r.Intn(9))}}
		case n == 17:
			x = api.Step{Kind: api.StepOpen, N: r.Intn(4)}
		}
		s.Steps = append(s.Steps, x)
	}
	return s
}

// TestFollows is P31.3, and theorem F: in worlds of scripts that are harmed what clients were told fits the model, or the trace shows a clash.
func TestFollows(t *testing.T) {
	r := rand.New(rand.NewSource(56))
	wrong, mended := 0, 0
	for range 40 {
		s := scriptOf(r)
		w, e := run.Run(s)
		if e != api.OK {
			t.Fatal(e)
		}
		for _, x := range w.Sess.Rets {
			if x.Code == api.ErrIntegrity {
				wrong++
				break
			}
		}
		for _, x := range w.Opens {
			if x.Code == api.OK {
				mended++
				break
			}
		}
		level, bucket, a, b, e := clash.Find(w.Trace)
		if e == api.OK && !clash.Check(level, bucket, a, b) {
			t.Fatal("what is found is no clash")
		}
		if e != api.OK && !model.Holds(s.Config, s.Calls, w.Sess.Rets, w.Opens) {
			t.Fatal("harm is told as data")
		}
	}
	if wrong < 10 || mended < 30 {
		t.Error("too few of a kind:", wrong, mended)
	}
}
