package desk_test

import (
	"fmt"
	"strings"
	"testing"

	"acreage/api"
	"acreage/ask"
	"acreage/book"
	"acreage/cut"
	"acreage/desk"
	"acreage/plan"
	"acreage/text"
)

// field: the queues of the document's examples, as text.
const field = "all: 0=10\nnorth < all: 0=8 20=4\nsouth < all: 0=6\nbarn < north: 0=8\n"

// lone: one queue.
const lone = "all: 0=10\n"

// turn: a line, and what it gives.
type turn struct{ line, gives string }

// play: the lines in turn, with these queues.
func play(t *testing.T, name, queues string, turns []turn) {
	t.Helper()
	script, must := "", ""
	for _, x := range turns {
		script += x.line + "\n"
		must += x.gives + "\n"
	}
	got, e := desk.Play(queues, script)
	if e != api.OK {
		t.Errorf("%s: error %d", name, e)
		return
	}
	if got == must {
		return
	}
	lines := strings.Split(got, "\n")
	if len(lines) != len(turns)+1 {
		t.Errorf("%s: %d lines, not %d: %q", name, len(lines)-1, len(turns), got)
		return
	}
	for i, x := range turns {
		if lines[i] != x.gives {
			t.Errorf("%s: %q gives %q, not %q", name, x.line, lines[i], x.gives)
		}
	}
}

// TestM1Lines: each line, and what it gives.
func TestM1Lines(t *testing.T) {
	play(t, "with 9 in all the second book is moved", field, []turn{
		{"order barn 2 30 4 3 5 6", "0 2 6"},
		{"any south 3 48 6 4", "1 3"},
		{"tick 1", "0"},
		{"busy all 7", "10"},
		{"left barn 7", "0"},
		{"change all 0 9", "moved 1 dropped"},
		{"books", "0 1"},
		{"busy all 7", "6"},
		{"cancel 0", "ok"},
		{"books", "1"},
		{"tick 48", "1"},
		{"books", ""},
	})
	play(t, "each kind", field, []turn{
		{"all south 0 48 4 6 2 3 2 3", "0 0 4 4"},
		{"any south 0 48 24 7 3 4 1 1", "1 6"},
		{"order south 0 48 2 3 1 2", "2 9 11"},
		{"tight south 0 48 3 3 2 6", "3 9 12"},
		{"tight south 0 48 2 2 3 5", "4 14 16"},
		{"tight south 0 18 2 2 3 5", "error 8"},
		{"books", "0 1 2 3 4"},
		{"tick 6", "1"},
		{"books", "1 2 3 4"},
		{"tick 6", "0"},
		{"tick 12", "2"},
		{"books", "3 4"},
	})
	play(t, "Ids go on", lone, []turn{
		{"any all 0 48 1 1", "0 0"},
		{"cancel 0", "ok"},
		{"any all 0 48 1 1", "1 0"},
		{"cancel 0", "error 6"},
		{"any all 0 48 1 11", "error 8"},
		{"any all 0 48 1 10", "2 1"},
		{"books", "1 2"},
	})
}

// TestM1Change: moved and dropped, each with its Ids; the queue has that room from then on.
func TestM1Change(t *testing.T) {
	play(t, "change", field, []turn{
		{"any barn 0 4 3 2", "0 0"},
		{"any barn 0 4 3 2", "1 0"},
		{"any barn 0 48 3 2", "2 0"},
		{"any barn 0 48 3 2", "3 0"},
		{"any south 0 48 3 2", "4 0"},
		{"left barn 3", "8"},
		{"change barn 0 3 5 6", "moved 2 3 dropped 1"},
		{"books", "0 2 3 4"},
		{"left barn 3", "1"},
		{"left barn 5", "2"},
		{"busy barn 0", "2"},
		{"busy all 0", "4"},
		{"change all 0 0", "moved dropped 0 2 3 4"},
		{"books", ""},
		{"change all 0 50 47 49", "moved dropped"},
		{"left all 47", "49"},
		{"left all 46", "50"},
	})
	f := ""
	for at := range api.End {
		f += fmt.Sprintf(" %d %d", at, at%2)
	}
	play(t, "End runs", lone, []turn{
		{"change all" + f, "moved dropped"},
		{"left all 46", "0"},
		{"left all 47", "1"},
		{"change all" + f + " 48 0", "error 1"},
		{"change none" + f, "error 6"},
		{"change none" + f + " 48 0", "error 1"},
	})
}

// TestM1Below: what is below 0 is given with - ahead.
func TestM1Below(t *testing.T) {
	play(t, "below 0", lone, []turn{
		{"any all 0 48 9 7", "0 0"},
		{"tick 5", "0"},
		{"change all 0 0 5 10", "moved dropped"},
		{"left all 4", "-7"},
		{"busy all 4", "7"},
		{"left all 5", "3"},
		{"left all 9", "10"},
	})
}

// TestM1Form: lines that are none of these give ErrForm, whatever else is wrong; nothing has changed.
func TestM1Form(t *testing.T) {
	lines := []string{
		"", " ", "  ", "x", "ALL", "error 1", "books ", " books", "books 1", "books all", "Books", "book", "books\r", "books\t", "\x00", "\xff\xfe",
		"all", "all all", "all all 0", "all all 0 5", "all all 0 5 1", "all all 0 5 1 1 1", "any all 0 5 1 1 1 1 1", "order all 0 5 1 1 1 1 1 1 1", "tight all 0 5 1 1 1 1 1 1 1 1",
		"any none 0 5 1", "any none 0 5 01 1", "any none 0 5 1 1 1 1 1 1 1 1", "all all all 5 1 1", "all all 0 all 1 1", "all all 0 5 x 1", "all all 0 5 1 x",
		"all  all 0 5 1 1", "all all  0 5 1 1", "all all 0 5 1 1 ", " all all 0 5 1 1", "all\tall 0 5 1 1", "all all 0 5 1  1", "all all 0 5 1 1\r",
		"any all -1 5 1 1", "any all +1 5 1 1", "any all 00 5 1 1", "any all 0 05 1 1", "any all 0 5 1.0 1", "any all 0 5 1 1_0", "any all 0 5 0x1 1", "any all 0 5 1 1000000", "any all 0 5 0000001 1", "any all 0 5 1 99999999999999999999", "any all 0 5 1 \xd9\xa1", "any all -0 5 1 1",
		"any ALL 0 5 1 1", "any 0 0 5 1 1", "any all1 0 5 1 1", "any abcdefghi 0 5 1 1", "any  0 5 1 1",
		"cancel", "cancel ", "cancel x", "cancel 0 0", "cancel 00", "cancel -1", "cancel 1000000", "cancel all",
		"tick", "tick x", "tick 3 3", "tick 03", "tick -3", "tick +3", "tick 1000000", "tick  3", "tick 3 ",
		"change", "change all", "change all 0", "change all 0 5 3", "change all 0 x", "change all 0 -5", "change none", "change none 0", "change all 0 05", "change 0 0 5", "change all=5", "change all 0=5", "change all: 0=5",
		"busy", "busy all", "busy all x", "busy all 4 4", "busy none", "busy none x", "busy 0 4", "busy 4", "busy all 04", "busy all -4", "busy  4", "busy All 4", "busy abcdefghi 4",
		"left", "left all", "left all x", "left all 4 4", "left none", "left none x", "left 0 4", "left all 4 ", "left all  4", "left  4",
	}
	for _, line := range lines {
		play(t, "form", lone, []turn{
			{"any all 2 48 4 3", "0 2"},
			{line, "error 1"},
			{"books", "0"},
			{"left all 2", "7"},
			{"left all 47", "10"},
			{"tick 0", "0"},
		})
	}
}

// TestM1Errors: ErrNone of queues, then the call's own; nothing has changed.
func TestM1Errors(t *testing.T) {
	for _, x := range []turn{
		{"any none 4 48 1 1", "error 6"},
		{"any none 9 9 1 1", "error 6"},
		{"any none 0 999999 0 0", "error 6"},
		{"any abcdefgh 4 48 1 1", "error 6"},
		{"any all 9 9 1 1", "error 3"},
		{"any all 9 49 1 1", "error 3"},
		{"any all 9 48 0 1", "error 3"},
		{"any all 9 48 25 1", "error 3"},
		{"any all 9 48 1 0", "error 3"},
		{"any all 9 48 1 51", "error 3"},
		{"any all 9 48 1 999999", "error 3"},
		{"any all 0 48 1 51", "error 3"},
		{"any all 1 48 1 1", "error 9"},
		{"any all 1 48 1 50", "error 9"},
		{"any all 2 48 1 50", "error 8"},
		{"tight all 2 4 1 1 1 1 1 1", "error 8"},
		{"cancel 1", "error 6"},
		{"cancel 999999", "error 6"},
		{"tick 49", "error 3"},
		{"tick 999999", "error 3"},
		{"tick 1", "error 9"},
		{"change none 0 5", "error 6"},
		{"change none 0 51", "error 6"},
		{"change all 0 51", "error 1"},
		{"change all 1 5", "error 1"},
		{"change all 0 5 3 5", "error 1"},
		{"change all 0 5 3 6 3 7", "error 1"},
		{"change all 0 5 48 6", "error 1"},
		{"busy none 4", "error 6"},
		{"busy none 48", "error 6"},
		{"busy all 48", "error 3"},
		{"left none 4", "error 6"},
		{"left none 48", "error 6"},
		{"left all 48", "error 3"},
	} {
		play(t, "errors", lone, []turn{
			{"any all 2 48 4 3", "0 2"},
			{"tick 2", "0"},
			x,
			{"books", "0"},
			{"left all 2", "7"},
			{"left all 47", "10"},
			{"tick 2", "0"},
			{"any all 2 48 4 3", "1 2"},
		})
	}
	var full []turn
	for i := range api.MaxBooks {
		full = append(full, turn{"any all 0 48 4 3", fmt.Sprintf("%d %d", i, i/3*4)})
	}
	play(t, "MaxBooks", lone, append(full,
		turn{"any all 0 48 4 3", "error 2"},
		turn{"any all 0 48 4 50", "error 2"},
		turn{"books", "0 1 2 3 4 5 6 7 8 9 10 11"},
		turn{"cancel 5", "ok"},
		turn{"any all 0 48 4 3", "12 4"},
		turn{"books", "0 1 2 3 4 6 7 8 9 10 11 12"},
	))
}

// TestM1Script: text.Read's errors, then ErrMany, then ErrForm, of the script as a whole.
func TestM1Script(t *testing.T) {
	long := strings.Repeat("x", api.MaxBytes+1)
	lines := func(n int) string { return strings.Repeat("books\n", n) }
	for _, x := range []struct {
		name, queues, script, gives string
		e                           api.Errno
	}{
		{"nothing", field, "", "", api.OK},
		{"one empty line", field, "\n", "error 1\n", api.OK},
		{"two empty lines", field, "\n\n", "error 1\nerror 1\n", api.OK},
		{"books", field, "books\n", "\n", api.OK},
		{"no line feed", field, "books", "", api.ErrForm},
		{"no line feed behind the last", field, "books\nbooks", "", api.ErrForm},
		{"a blank behind it", field, "books\n ", "", api.ErrForm},
		{"MaxActs lines", field, lines(60), strings.Repeat("\n", 60), api.OK},
		{"one more", field, lines(61), "", api.ErrMany},
		{"MaxActs lines, and what is none", field, lines(60) + "books", "", api.ErrForm},
		{"one more, and what is none", field, lines(61) + "books", "", api.ErrMany},
		{"one more, which is empty", field, lines(60) + "\n", "", api.ErrMany},
		{"MaxBytes bytes", field, long[2:] + "\n", "error 1\n", api.OK},
		{"MaxBytes bytes, no line feed", field, long[1:], "", api.ErrForm},
		{"a byte more", field, long[1:] + "\n", "", api.ErrMany},
		{"a byte more, no line feed", field, long, "", api.ErrMany},
		{"no queues", "", "books\n", "", api.ErrForm},
		{"no queues, no script", "", "", "", api.ErrForm},
		{"no queues, too long", "", long, "", api.ErrForm},
		{"no queues, too many", "a: 0=01\n", lines(61), "", api.ErrForm},
		{"too long queues", long, "books\n", "", api.ErrMany},
		{"too long queues, no line feed", long, "books", "", api.ErrMany},
	} {
		if got, e := desk.Play(x.queues, x.script); got != x.gives || e != x.e {
			t.Errorf("%s: %q %d, not %q %d", x.name, got, e, x.gives, x.e)
		}
	}
}

// drawn: numbers, the same each time.
type drawn uint64

func (d *drawn) below(n int) int {
	*d = *d*6364136223846793005 + 1442695040888963407
	return int(uint64(*d) >> 33 % uint64(n))
}

// given: what a line gives, with these words, if there is no error.
func given(e api.Errno, words ...any) string {
	if e != api.OK {
		return fmt.Sprintf("error %d", e)
	}
	return strings.Join(strings.Fields(strings.NewReplacer("[", " ", "]", " ").Replace(fmt.Sprintln(words...))), " ")
}

// submit that is drawn: the line, what comes, and what it gives.
func (d *drawn) submit(s api.State, names []string) (string, api.State, string) {
	r := api.Request{Queue: d.below(len(names)), From: max(0, s.Clock-1+d.below(12)), Kind: 1 + d.below(4)}
	r.Until = r.From + d.below(40)
	line := fmt.Sprint([]string{"all", "any", "order", "tight"}[r.Kind-1], " ", names[r.Queue], " ", r.From, " ", r.Until)
	for range 1 + d.below(3) {
		p := api.Piece{Len: 1 + d.below(7), N: 1 + d.below(6)}
		r.Pieces = append(r.Pieces, p)
		line += fmt.Sprint(" ", p.Len, " ", p.N)
	}
	x, id, e := book.Submit(s, r)
	var at []int
	if e == api.OK {
		for _, b := range x.Books[len(x.Books)-1].Bites {
			at = append(at, b.At)
		}
	}
	return line, x, given(e, id, at)
}

// line that is drawn, what comes, and what it gives.
func (d *drawn) line(s api.State, names []string) (string, api.State, string) {
	q, n := d.below(len(names)), d.below(50)
	switch d.below(10) {
	case 0:
		x, e := book.Cancel(s, n/5)
		return fmt.Sprint("cancel ", n/5), x, given(e, "ok")
	case 1:
		at := max(0, s.Clock+n%5-1)
		x, k, e := book.Tick(s, at)
		return fmt.Sprint("tick ", at), x, given(e, k)
	case 2:
		f := []api.Run{{At: 0, N: n % 12}, {At: 1 + d.below(47), N: d.below(12)}}
		x, up, down, e := cut.Change(s, q, f)
		return fmt.Sprintf("change %s 0 %d %d %d", names[q], f[0].N, f[1].At, f[1].N), x, given(e, "moved", up, "dropped", down)
	case 3:
		k, e := ask.Busy(s, q, n)
		return fmt.Sprint("busy ", names[q], " ", n), s, given(e, k)
	case 4:
		k, e := ask.Left(s, q, n)
		return fmt.Sprint("left ", names[q], " ", n), s, given(e, k)
	case 5:
		var ids []int
		for _, b := range s.Books {
			ids = append(ids, b.Id)
		}
		return "books", s, given(api.OK, ids)
	}
	return d.submit(s, names)
}

// TestM2Drawn: all lines that are given, against the calls by themselves.
func TestM2Drawn(t *testing.T) {
	d := drawn(41)
	names := []string{"all", "north", "south", "barn", "none"}
	l, _ := text.Read(field)
	var wrong, right, moved int
	for range 150 {
		s, _ := plan.Begin(l)
		script, must := "", ""
		for range 1 + d.below(api.MaxActs) {
			line, x, gives := d.line(s, names)
			if !strings.HasPrefix(gives, "error") {
				s = x
				right++
			} else {
				wrong++
			}
			moved += strings.Count(gives, "moved ") - strings.Count(gives, "moved dropped")
			script, must = script+line+"\n", must+gives+"\n"
		}
		got, e := desk.Play(field, script)
		if e != api.OK || got != must {
			t.Fatalf("%s\n%s%d\nnot\n%s", script, got, e, must)
		}
	}
	if wrong < 300 || right < 1000 || moved < 20 {
		t.Errorf("drawn too little: %d wrong, %d right, %d moved", wrong, right, moved)
	}
}

// TestP1: whatever is handed in, the call does not panic, gives a line for each, and nothing beside an error.
func TestP1(t *testing.T) {
	d := drawn(42)
	words := []string{"all", "any", "order", "tight", "cancel", "tick", "change", "busy", "left", "books", "north", "barn", "none", "0", "1", "5", "48", "999999", "1000000", "-1", "", "\n", "\n", "\x00", "\xff", "x"}
	for range 3000 {
		script := ""
		for range d.below(60) {
			script += words[d.below(len(words))] + " \n"[d.below(8)/7:][:1]
		}
		got, e := desk.Play(field, script)
		if e != api.OK && got != "" || e == api.OK && strings.Count(got, "\n") != strings.Count(script, "\n") {
			t.Fatalf("%q: %q %d", script, got, e)
		}
	}
	for i := range 256 {
		b := string([]byte{byte(i)})
		for _, q := range []string{b, lone, lone + b} {
			for _, s := range []string{b, b + "\n", "books" + b + "\n", "busy all " + b + "\n", "busy " + b + " 4\n"} {
				if got, e := desk.Play(q, s); e != api.OK && got != "" {
					t.Fatalf("%q, %q: %q beside %d", q, s, got, e)
				}
			}
		}
	}
}

// TestP3: the same script gives the same, whatever was played between.
func TestP3(t *testing.T) {
	const script = "any all 0 48 4 3\nbooks\nchange all 0 2\nbooks\n"
	for range 3 {
		if got, e := desk.Play(field, script); got != "0 0\n0\nmoved dropped 0\n\n" || e != api.OK {
			t.Errorf("%q %d", got, e)
		}
		desk.Play(lone, "tick 40\nany all 40 48 1 1\n")
		desk.Play(field, "books")
		desk.Play("", "")
	}
}

// TestP4: what is far more than it may be has its answer, too.
func TestP4(t *testing.T) {
	if got, e := desk.Play(strings.Repeat(lone, 1<<20), ""); got != "" || e != api.ErrMany {
		t.Errorf("%q %d", got, e)
	}
	if got, e := desk.Play(lone, strings.Repeat("books\n", 1<<20)); got != "" || e != api.ErrMany {
		t.Errorf("%q %d", got, e)
	}
}
