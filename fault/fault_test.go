package fault_test

import (
	"math"
	"math/rand"
	"slices"
	"strconv"
	"strings"
	"testing"

	"thimblerig/api"
	"thimblerig/fault"
)

const most = 1 << 20

// codes are api's errors but OK.
var codes = []api.Errno{2, 4, 6, 8, 9, 10, 50, 110, 180, 230, 250, 260, 261}

func same(a, b api.Fault) bool {
	return a.Code == b.Code && slices.Equal(a.Marks, b.Marks)
}

func marks(n int) []api.Mark {
	return make([]api.Mark, n)
}

// TestFaultsThatMayBe is P6.1 and P6.2: codes, marks and their edges; every call asks.
func TestFaultsThatMayBe(t *testing.T) {
	good := []api.Fault{
		{Code: api.ErrArg, Marks: marks(api.MaxMarks)},
		{Code: api.ErrArg, Marks: []api.Mark{{Level: most, Place: 0}, {Level: 0, Place: most}}},
	}
	bad := []api.Fault{
		{}, {Marks: marks(1)}, {Code: -2}, {Code: math.MinInt}, {Code: math.MaxInt},
		{Code: api.ErrArg, Marks: marks(api.MaxMarks + 1)},
	}
	for code := api.Errno(-5); code < 400; code++ {
		if slices.Contains(codes, code) {
			good = append(good, api.Fault{Code: code}, api.Fault{Code: code, Marks: marks(2)})
		} else {
			bad = append(bad, api.Fault{Code: code})
		}
	}
	for _, m := range []api.Mark{{Level: -1}, {Place: -1}, {Level: most + 1}, {Place: most + 1}, {Level: math.MinInt}, {Place: math.MaxInt}} {
		bad = append(bad, api.Fault{Code: api.ErrEntropy, Marks: []api.Mark{m}}, api.Fault{Code: api.ErrEntropy, Marks: []api.Mark{{}, m}}, api.Fault{Code: api.ErrEntropy, Marks: append(marks(7), m)})
		if out, e := fault.Wrap(api.Fault{Code: api.ErrEntropy}, m); e != api.ErrBad || !same(out, api.Fault{}) {
			t.Error("Wrap by", m, out, e)
		}
		if out, e := fault.Wrap(api.Fault{Code: api.ErrEntropy, Marks: marks(8)}, m); e != api.ErrBad || !same(out, api.Fault{}) {
			t.Error("what may not be comes first", m, out, e)
		}
	}
	for _, f := range good {
		if e := fault.Check(f); e != api.OK {
			t.Error("Check", f, e)
		}
		if e := fault.Code(f); e != f.Code {
			t.Error("Code", f, e)
		}
		if fault.Text(f) == "" {
			t.Error("Text", f)
		}
	}
	for _, f := range bad {
		if e := fault.Check(f); e != api.ErrBad {
			t.Error("Check", f, e)
		}
		if out, e := fault.Wrap(f, api.Mark{}); e != api.ErrBad || !same(out, api.Fault{}) {
			t.Error("Wrap", f, out, e)
		}
		if out, m, e := fault.Open(f); e != api.ErrBad || !same(out, api.Fault{}) || m != (api.Mark{}) {
			t.Error("Open", f, out, m, e)
		}
		if e := fault.Code(f); e != api.ErrBad {
			t.Error("Code", f, e)
		}
		if place, is := fault.Where(f, 0); place != 0 || is {
			t.Error("Where", f, place, is)
		}
		if fault.Sticky(f) || fault.Text(f) != "" || fault.First([]api.Fault{f}) != -1 {
			t.Error("Sticky, Text or First", f)
		}
	}
}

// TestWrapAndOpen is P6.1 and P6.3.
func TestWrapAndOpen(t *testing.T) {
	f := api.Fault{Code: api.ErrOverflow}
	if out, m, e := fault.Open(f); e != api.ErrNone || !same(out, api.Fault{}) || m != (api.Mark{}) {
		t.Error(out, m, e)
	}
	inner, e := fault.Wrap(f, api.Mark{Level: 2, Place: 5})
	if e != api.OK || !same(inner, api.Fault{Code: api.ErrOverflow, Marks: []api.Mark{{Level: 2, Place: 5}}}) {
		t.Fatal(inner, e)
	}
	outer, e := fault.Wrap(inner, api.Mark{Level: 0, Place: 1})
	if e != api.OK || !same(outer, api.Fault{Code: api.ErrOverflow, Marks: []api.Mark{{Level: 0, Place: 1}, {Level: 2, Place: 5}}}) {
		t.Fatal(outer, e)
	}
	outer.Marks[1].Place = 9
	if inner.Marks[0].Place != 5 {
		t.Error("marks are shared")
	}
	back, m, e := fault.Open(outer)
	if e != api.OK || m != (api.Mark{Level: 0, Place: 1}) || !same(back, api.Fault{Code: api.ErrOverflow, Marks: []api.Mark{{Level: 2, Place: 9}}}) {
		t.Error(back, m, e)
	}
	back.Marks[0].Place = 7
	if outer.Marks[1].Place != 9 || len(outer.Marks) != 2 {
		t.Error("marks are shared")
	}
	full := api.Fault{Code: api.ErrPin, Marks: marks(api.MaxMarks)}
	if out, e := fault.Wrap(full, api.Mark{}); e != api.ErrMany || !same(out, api.Fault{}) {
		t.Error(out, e)
	}
	full.Marks = full.Marks[:7:8]
	if out, e := fault.Wrap(full, api.Mark{Level: 3}); e != api.OK || len(out.Marks) != 8 || out.Marks[0].Level != 3 {
		t.Error(out, e)
	}
}

// TestSticky is P6.2: three errors stay, whatever their marks.
func TestSticky(t *testing.T) {
	for _, code := range codes {
		want := code == api.ErrEntropy || code == api.ErrIntegrity || code == api.ErrOverflow
		for n := range 9 {
			if fault.Sticky(api.Fault{Code: code, Marks: marks(n)}) != want {
				t.Error(code, n)
			}
		}
	}
	for _, x := range []struct {
		l    []api.Fault
		want int
	}{
		{nil, -1},
		{[]api.Fault{{Code: api.ErrBusy}, {Code: api.ErrEntropy}, {Code: api.ErrOverflow}}, 1},
		{[]api.Fault{{Code: api.ErrIntegrity}}, 0},
		{[]api.Fault{{Code: api.ErrBusy}, {Code: api.ErrPin}, {}}, -1},
		{[]api.Fault{{}, {Code: api.ErrEntropy, Marks: marks(9)}, {Code: api.ErrOverflow, Marks: marks(8)}}, 2},
	} {
		if got := fault.First(x.l); got != x.want {
			t.Error(x, got)
		}
	}
}

// TestWhere is P6.2: the outermost mark of a level.
func TestWhere(t *testing.T) {
	f := api.Fault{Code: api.ErrOverflow, Marks: []api.Mark{{Level: 0, Place: 1}, {Level: 2, Place: 5}, {Level: 2, Place: 6}, {Level: 0, Place: 8}, {Level: most, Place: most}}}
	for _, x := range []struct {
		level, place int
		is           bool
	}{{0, 1, true}, {2, 5, true}, {most, most, true}, {3, 0, false}, {-1, 0, false}, {1, 0, false}} {
		if place, is := fault.Where(f, x.level); place != x.place || is != x.is {
			t.Error(x, place, is)
		}
	}
	if place, is := fault.Where(api.Fault{Code: api.ErrArg}, 0); place != 0 || is {
		t.Error(place, is)
	}
}

// TestText is P6.2: what a fault says.
func TestText(t *testing.T) {
	for want, f := range map[string]api.Fault{
		"level 0 place 1: level 2 place 5: error 180": {Code: api.ErrOverflow, Marks: []api.Mark{{Level: 0, Place: 1}, {Level: 2, Place: 5}}},
		"error 2":                                {Code: api.ErrArg},
		"level 1048576 place 1048576: error 261": {Code: api.ErrPage, Marks: []api.Mark{{Level: most, Place: most}}},
	} {
		if got := fault.Text(f); got != want {
			t.Error(got)
		}
	}
}

// read is the fault that a text tells.
func read(t *testing.T, text string) api.Fault {
	words := strings.Fields(strings.ReplaceAll(text, ":", ""))
	number := func(s string) int {
		n, err := strconv.Atoi(s)
		if err != nil {
			t.Fatal(text, err)
		}
		return n
	}
	var f api.Fault
	for ; len(words) > 2; words = words[4:] {
		f.Marks = append(f.Marks, api.Mark{Level: number(words[1]), Place: number(words[3])})
	}
	f.Code = api.Errno(number(words[1]))
	return f
}

// TestFollows is P6.4, of faults of all kinds.
func TestFollows(t *testing.T) {
	r := rand.New(rand.NewSource(9))
	for range 1000 {
		f := api.Fault{Code: codes[r.Intn(len(codes))]}
		for range r.Intn(api.MaxMarks) {
			f.Marks = append(f.Marks, api.Mark{Level: r.Intn(most + 1), Place: r.Intn(5)})
		}
		m := api.Mark{Level: r.Intn(4), Place: r.Intn(most + 1)}
		out, e := fault.Wrap(f, m)
		if e != api.OK || fault.Check(out) != api.OK || fault.Code(out) != fault.Code(f) || fault.Sticky(out) != fault.Sticky(f) {
			t.Fatal(f, m, out, e)
		}
		back, was, e := fault.Open(out)
		if e != api.OK || was != m || !same(back, f) {
			t.Fatal(f, m, back, was, e)
		}
		if place, is := fault.Where(out, m.Level); !is || place != m.Place {
			t.Fatal(out, place, is)
		}
		if !same(read(t, fault.Text(out)), out) {
			t.Fatal(fault.Text(out), out)
		}
	}
}
