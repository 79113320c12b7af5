package tale_test

import (
	"math/rand"
	"strconv"
	"strings"
	"testing"

	"thimblerig/tale"
)

// tells holds a day, its lines parted by "; ", against what it tells, parted likewise.
func tells(t *testing.T, day, want string) {
	t.Helper()
	text := strings.ReplaceAll(day, "; ", "\n")
	if got := strings.TrimSuffix(tale.Tell(text), "\n"); strings.ReplaceAll(got, "\n", " | ") != want {
		t.Errorf("%s\ntells %s\nnot   %s", day, strings.ReplaceAll(got, "\n", " | "), want)
	}
}

const (
	three = "tape 0 1 2 3 0 1 2 3 0; begin; fetch 0 3; tick 1"
	begun = "ok | ok | wait 1 | 0 ok"
)

// TestExamples are those of the chapter and of the document.
func TestExamples(t *testing.T) {
	tells(t, three+"; write 0 3 2a; read 0 3; read 1 3; show", begun+" | ok | 2a | error 260 | 1 13 0 6 13")
	tells(t, three+"; unpin 0 3; seal 1; open 0; tick 1; open 0; open 1", begun+" | ok | token 0 | ok | . | error 110 | no")
	tells(t, three+"; flip 0 1 12 4; flip 0 1 12 256; swap 0 1 8; crash 99; tick 1; read 0 3; show", begun+" | ok | ? | no | no | . | error 110 | 2 13 110 12 19")
	tells(t, "show; tape 1 5; key ann; begin; begin; fetch 2 0; fetch 0 4", "? | ? | ok | ok | ? | ? | error 261")
}

// TestLong is P32.1: how long a day may be.
func TestLong(t *testing.T) {
	line := strings.Repeat("x", 4095)
	for i, x := range []struct {
		text, want string
	}{
		{"", ""}, {"\n\n\n", ""}, {"x", "?\n"}, {"x\n", "?\n"}, {"\nx\n\n\ny", "?\n?\n"}, {strings.Repeat("x\n", 32), strings.Repeat("?\n", 32)}, {strings.Repeat("\nx\n", 32) + "\n\n", strings.Repeat("?\n", 32)}, {strings.Repeat("x\n", 33), "long\n"}, {strings.Repeat("x\n", 32) + "y", "long\n"},
		{line + "\n", "?\n"}, {line + "x", "?\n"}, {line + "x\n", "long\n"}, {line + "\n\n", "long\n"}, {strings.Repeat("\n", 4096), ""}, {strings.Repeat("\n", 4097), "long\n"},
		{strings.Repeat(" \n", 32), strings.Repeat("?\n", 32)}, {strings.Repeat(" \n", 33), "long\n"},
	} {
		if got := tale.Tell(x.text); got != x.want {
			t.Errorf("%d: %q", i, got)
		}
	}
}

// TestWords is P32.1: blanks, numbers, names and bytes, and lines that aren't as told.
func TestWords(t *testing.T) {
	for _, line := range []string{
		" ", "  ", " begin", "begin ", "begin  ", "begin\t", "\tbegin", "begin\r", "Begin", "begin 1", "begin x", "x", "ok", "?", "key", "key ", "key Ann", "key ann1", "key ann ann", "key  ann", "key abcdefghijklm", "key 1", "key \xc3\xa4", "key a\x00",
		"tape", "tape 0", "tape 0 ", "tape 1 1", "tape 0 x", "tape 0 01", "tape 0 -1", "tape 0 1000000", "tape 0 +1", "tape 00 1", "tape  0 1", "tape 0  1", "tape x 1", "tape 0 1 ", "tape 0 1.", "tape 0 0x1", "tape 999999 1",
		"pool", "pool 4 1 2 2 8 2 2 4", "pool 4 1 2 2 8 2 2 4 4 4", "pool 4 1 2 2 8 2 2 4 x", "pool 0 1 2 2 8 2 2 4 4", "pool 65 1 2 2 8 2 2 4 4", "pool 64 1 2 2 8 2 2 4 4", "pool 4 33 2 2 8 2 2 4 4", "pool 4 1 1 2 8 2 2 4 4", "pool 4 1 2 5 8 2 2 4 4", "pool 4 1 2 2 65 2 2 4 4", "pool 4 1 2 2 8 9 2 4 4", "pool 4 1 2 2 8 2 5 4 4", "pool 4 1 2 2 8 2 2 17 4", "pool 4 1 2 2 8 2 2 4 17", "pool 04 1 2 2 8 2 2 4 4",
		"fetch 0 0", "read 0 0", "write 0 0 00", "unpin 0 0", "flush 0", "seal 0", "tick 1", "flip 0 1 0 1", "swap 0 1 1", "old 0 1 0", "drop 0 1", "crash 0", "open 0", "show",
	} {
		tells(t, strings.ReplaceAll(line, "; ", ";"), "?")
	}
	for _, line := range []string{
		"key a", "key abcdefghijkl", "key az", "begin", "tape 0 0", "tape 0 999999", "tape 0 1 2 3", "pool 1 1 2 1 1 1 1 1 1", "pool 64 32 8 4 64 8 4 16 16", "pool 64 1 2 2 8 2 2 4 8",
	} {
		tells(t, line, "ok")
	}
	for _, line := range []string{
		"begin", "key ann", "tape 0 1", "pool 4 1 2 2 8 2 2 4 4", "begin 1", "show 1", "show x", "shows",
		"fetch", "fetch 0", "fetch 0 0 0", "fetch 2 0", "fetch x 0", "fetch 0 x", "fetch 0 00", "fetch 0 1000000", "fetch 0 -1",
		"read 0", "read 2 0", "read 0 0 0", "unpin 0", "unpin 2 0", "unpin 0 0 0", "flush", "flush 0 0", "flush 2", "seal", "seal 0 0", "seal 2", "seal x",
		"write 0 0", "write 0 0 0", "write 0 0 000", "write 0 0 0000", "write 0 0 0A", "write 0 0 0g", "write 0 0 x0", "write 2 0 00", "write 0 x 00", "write 0 0 00 00", "write 0 00 00", "write",
		"tick", "tick 0", "tick 10", "tick x", "tick 1 1", "tick 01", "open", "open x", "open 0 0",
		"flip 0 1 0", "flip 0 1 0 256", "flip 0 1 0 1 1", "flip 0 1 0 x", "swap 0 1", "swap 0 1 1 1", "old 0 1", "old 0 1 0 0", "drop 0", "drop 0 1 1", "crash", "crash 0 0", "crash x",
	} {
		tells(t, "begin; "+line+"; show", "ok | ? | 0 7 0 0 7")
	}
}

// TestCalls is P32.1: what calls tell.
func TestCalls(t *testing.T) {
	tells(t, three+"; write 0 3 10; read 0 3; write 0 3 00; fetch 0 3; read 0 3; unpin 0 3; unpin 0 3; unpin 0 3; read 0 3", begun+" | ok | 10 | ok | ok | 00 | ok | ok | error 260 | error 260")
	tells(t, three+"; fetch 1 2; fetch 1 2; read 1 2; flush 0; show", begun+" | wait 1 | ? | ? | wait 1 | 1 13 0 6 13")
	tells(t, three+"; fetch 1 2; flush 0; tick 1; fetch 1 1", begun+" | wait 1 | wait 1 | 0 ok; 1 ok | error 250")
	tells(t, three+"; write 0 3 ff; seal 0; unpin 0 3; seal 0; flush 0; tick 1; seal 0; seal 1", begun+" | ok | error 260 | ok | error 230 | wait 1 | 0 ok | token 0 | token 1")
	tells(t, three+"; fetch 1 2; fetch 0 1; tick 2; read 1 2; tick 9; fetch 1 2; show", begun+" | wait 1 | error 250 | 1 ok | 00 | . | error 50 | 12 31 50 72 79")
	tells(t, "begin; fetch 0 999999; read 0 4; write 0 4 00; unpin 0 9; flush 0; fetch 0 1; tick 1; seal 0", "ok | error 261 | error 261 | error 261 | error 261 | ok | wait 1 | 0 error 50 | error 50")
	tells(t, "begin; fetch 1 0; fetch 0 1; tick 1; tick 1", "ok | wait 1 | wait 2 | 0 error 50; 1 error 50 | .")
	// Two-byte pages, one frame, three clients.
	tells(t, "pool 5 2 2 1 9 1 3 3 8; tape 0 5 6 7 8 9 1 2 3; begin; fetch 2 4; tick 1; write 2 4 0a; write 2 4 0aff; read 2 4; unpin 2 4; fetch 0 1; fetch 1 1; tick 9; read 1 1", "ok | ok | ok | wait 1 | 2 ok | ? | ok | 0aff | ok | wait 2 | wait 2 | 0 ok; 1 ok | error 50")
}

// TestTape is P32.1: up to 64 cells of a lane, put one behind the other; and a pool empties them.
func TestTape(t *testing.T) {
	half := "tape 0" + strings.Repeat(" 7", 32)
	tells(t, half+"; "+half+"; tape 0 1; begin", "ok | ok | ? | ok")
	tells(t, half+"; "+half+" 7; tape 0 1; begin", "ok | ? | ok | ok")
	tells(t, "tape 0"+strings.Repeat(" 7", 65), "?")
	// Three ticks have six cells, the fourth goes wrong; behind pool there are none.
	tells(t, "tape 0 1 2 3; tape 0 4 5 6; begin; tick 3; show; tick 1; show", "ok | ok | ok | . | 3 25 0 18 25 | . | 4 25 50 24 31")
	tells(t, "tape 0 1 2; pool 4 1 2 2 8 2 2 4 4; begin; tick 1; show", "ok | ok | ok | . | 1 7 50 6 13")
	// A level above, whose lane is its own.
	tells(t, "pool 8 1 2 2 8 2 2 4 4; tape 1 1 2; begin; tick 1; show", "ok | ok | ok | . | 1 22 50 14 36")
	tells(t, "pool 8 1 2 2 8 2 2 4 4; tape 1 1 2; tape 0 1 2; tape 2 1; begin; tick 1; show", "ok | ok | ok | ? | ok | . | 1 36 0 14 36")
}

// TestHarm is P32.1: each kind of harm, and tokens that are opened behind it.
func TestHarm(t *testing.T) {
	tells(t, three+"; crash 7; tick 1; show", begun+" | ok | . | 2 13 110 12 19")
	tells(t, three+"; crash 13; tick 1; show", begun+" | ok | . | 2 19 0 12 19")
	tells(t, three+"; crash 14; swap 0 2 3; swap 0 3 2; swap 0 8 1; swap 1 1 1; tick 1; show", begun+" | no | ok | ok | no | no | . | 2 19 0 12 19")
	tells(t, three+"; swap 0 2 3; tick 1; fetch 1 2; show", begun+" | ok | . | error 110 | 2 13 110 12 19")
	tells(t, three+"; old 0 1 2; tick 1; show", begun+" | ok | . | 2 19 0 12 19")
	tells(t, three+"; old 0 1 3; old 0 1 0; old 0 8 0; tick 1; show", begun+" | no | ok | no | . | 2 13 110 12 19")
	tells(t, three+"; drop 0 1; drop 0 8; drop 1 1; tick 1; show", begun+" | ok | no | no | . | 2 13 110 12 19")
	tells(t, three+"; flip 0 1 12 0; flip 0 1 999 1; flip 0 0 0 1; flip 0 1 12 255; flip 0 1 12 255; tick 1; show", begun+" | no | no | no | ok | ok | . | 2 19 0 12 19")
	tells(t, three+"; flip 0 1 90 1; flip 0 1 89 1; tick 1; show", begun+" | no | ok | . | 2 13 110 12 19")
	tells(t, three+"; unpin 0 3; seal 0; tick 1; show; crash 13; open 0; show; fetch 1 3; read 1 3", begun+" | ok | token 0 | . | 2 19 0 12 19 | ok | ok | 2 19 0 19 19 | wait 1 | ?")
	tells(t, three+"; unpin 0 3; seal 0; fetch 1 1; open 0; fetch 1 1; tick 1; read 1 1; open 1", begun+" | ok | token 0 | wait 1 | ok | wait 1 | 1 ok | 00 | no")
}

// TestKey is P32.1: by another key other bytes, and other tokens; what is told hangs on neither.
func TestKey(t *testing.T) {
	tells(t, "key ann; "+three+"; write 0 3 2a; read 0 3; show", "ok | "+begun+" | ok | 2a | 1 13 0 6 13")
	tells(t, "key ann; key bob; "+three+"; key bob; show", "ok | ok | "+begun+" | ? | 1 13 0 6 13")
}

// dayOf are lines of all kinds.
func dayOf(r *rand.Rand, many int) []string {
	n := func(below int) string { return strconv.Itoa(r.Intn(below)) }
	out := []string{"tape 0 1 2 3 0 1 2 3 0 5 6 7 8 9 1 2 3 4 5 6 7", "begin"}
	for range many {
		out = append(out, []string{
			"fetch " + n(2) + " " + n(4), "fetch " + n(2) + " " + n(4), "read " + n(2) + " " + n(4), "write " + n(2) + " " + n(4) + " 0" + n(10), "unpin " + n(2) + " " + n(4), "flush " + n(2), "seal " + n(2), "tick " + n(4), "tick 1", "tick 1", "open " + n(2), "show", "x", "flip 0 " + n(8) + " " + n(90) + " " + n(300),
		}[r.Intn(14)])
	}
	return out
}

// TestFollows is P32.2: the beginning of a day begins what it tells, each line tells just one, and ticks may be parted.
func TestFollows(t *testing.T) {
	r := rand.New(rand.NewSource(57))
	for range 40 {
		day := dayOf(r, 25)
		whole := tale.Tell(strings.Join(day, "\n"))
		if strings.Count(whole, "\n") != len(day) {
			t.Fatal("another number of lines", whole)
		}
		if again := tale.Tell("\n" + strings.Join(day, "\n\n") + "\n"); again != whole {
			t.Fatal("empty lines count")
		}
		for many := range day {
			if part := tale.Tell(strings.Join(day[:many], "\n") + "\n"); !strings.HasPrefix(whole, part) || strings.Count(part, "\n") != many {
				t.Fatal("a beginning tells otherwise", part, whole)
			}
		}
		ticks := 2 + r.Intn(8)
		first := 1 + r.Intn(ticks-1)
		parted := tale.Tell(strings.Join(append(day[:12:12], "tick "+strconv.Itoa(first), "tick "+strconv.Itoa(ticks-first), "show", "read 0 1", "read 1 2"), "\n"))
		joined := tale.Tell(strings.Join(append(day[:12:12], "tick "+strconv.Itoa(ticks), "show", "read 0 1", "read 1 2"), "\n"))
		p, j := strings.Split(parted, "\n"), strings.Split(joined, "\n")
		if strings.Join(p[14:], "\n") != strings.Join(j[13:], "\n") {
			t.Fatal("the day goes on otherwise", parted, joined)
		}
		var ends []string
		for _, line := range p[12:14] {
			if line != "." {
				ends = append(ends, line)
			}
		}
		if want := strings.Join(ends, "; "); want != j[12] && (want != "" || j[12] != ".") {
			t.Fatal("other calls end", p[12:14], j[12])
		}
	}
}
