package log_test

import (
	"math"
	"reflect"
	"slices"
	"strings"
	"testing"

	"acreage/api"
	"acreage/book"
	"acreage/cut"
	"acreage/log"
	"acreage/plan"
)

// rs: runs from At and N in turn.
func rs(n ...int) []api.Run {
	f := []api.Run{}
	for i := 0; i+1 < len(n); i += 2 {
		f = append(f, api.Run{At: n[i], N: n[i+1]})
	}
	return f
}

// bs: bites from Piece and At in turn.
func bs(n ...int) []api.Bite {
	b := []api.Bite{}
	for i := 0; i+1 < len(n); i += 2 {
		b = append(b, api.Bite{Piece: n[i], At: n[i+1]})
	}
	return b
}

// want: a request; its pieces are Len and N in turn.
func want(q, from, until, kind int, n ...int) api.Request {
	r := api.Request{Queue: q, From: from, Until: until, Kind: kind}
	for i := 0; i+1 < len(n); i += 2 {
		r.Pieces = append(r.Pieces, api.Piece{Len: n[i], N: n[i+1]})
	}
	return r
}

// The four kinds of acts, with nothing beside what they are made of.
func submit(r api.Request) api.Act         { return api.Act{Kind: api.ActSubmit, Req: r} }
func cancel(id int) api.Act                { return api.Act{Kind: api.ActCancel, N: id} }
func tick(t int) api.Act                   { return api.Act{Kind: api.ActTick, N: t} }
func change(q int, room []api.Run) api.Act { return api.Act{Kind: api.ActChange, N: q, Cap: room} }

// field: the queues of the document's examples.
func field() []api.Queue {
	return []api.Queue{
		{Name: "all", Parent: -1, Cap: rs(0, 10)},
		{Name: "north", Parent: 0, Cap: rs(0, 8, 20, 4)},
		{Name: "south", Parent: 0, Cap: rs(0, 6)},
		{Name: "barn", Parent: 1, Cap: rs(0, 8)},
	}
}

// farm: a state of two books, at 5.
func farm() api.State {
	return api.State{Clock: 5, Next: 6, Tree: field(), Books: []api.Book{
		{Id: 1, Req: want(3, 2, 30, api.Order, 4, 3, 5, 6), Bites: bs(0, 8, 1, 13)},
		{Id: 4, Req: want(2, 3, 48, api.Any, 6, 4), Bites: bs(0, 9)},
	}}
}

func with(s api.State, do func(s *api.State)) api.State {
	do(&s)
	return s
}

// nothing: is the state its zero value?
func nothing(s api.State) bool {
	return s.Clock == 0 && s.Next == 0 && len(s.Tree) == 0 && len(s.Books) == 0
}

// same: do both states say the same? (An empty list may be nil or not.)
func same(a, b api.State) bool {
	if a.Clock != b.Clock || a.Next != b.Next || len(a.Tree) != len(b.Tree) || len(a.Books) != len(b.Books) {
		return false
	}
	for i := range a.Tree {
		if !reflect.DeepEqual(a.Tree[i], b.Tree[i]) {
			return false
		}
	}
	for i := range a.Books {
		if !reflect.DeepEqual(a.Books[i], b.Books[i]) {
			return false
		}
	}
	return true
}

// sameActs: do both lists say the same? (An empty list may be nil or not.)
func sameActs(a, b []api.Act) bool {
	return slices.EqualFunc(a, b, func(x, y api.Act) bool {
		p, q, f, g := x.Req.Pieces, y.Req.Pieces, x.Cap, y.Cap
		x.Req.Pieces, y.Req.Pieces, x.Cap, y.Cap = nil, nil, nil, nil
		return reflect.DeepEqual(x, y) && slices.Equal(p, q) && slices.Equal(f, g)
	})
}

// turn: what makes a state wrong, and which error it has then.
type turn struct {
	name string
	do   func(s *api.State)
	e    api.Errno
}

// wrongs: one of each of plan.Check's errors, and some edges.
func wrongs() []turn {
	return []turn{
		{"no queues", func(s *api.State) { s.Tree = nil }, api.ErrMany},
		{"no name", func(s *api.State) { s.Tree[1].Name = "" }, api.ErrName},
		{"the same name", func(s *api.State) { s.Tree[3].Name = "all" }, api.ErrThere},
		{"its own Parent", func(s *api.State) { s.Tree[3].Parent = 3 }, api.ErrRange},
		{"no Cap", func(s *api.State) { s.Tree[0].Cap = nil }, api.ErrForm},
		{"too many books", func(s *api.State) { s.Books = make([]api.Book, api.MaxBooks+1) }, api.ErrMany},
		{"an empty book", func(s *api.State) { s.Books[1] = api.Book{} }, api.ErrKind},
		{"no such queue", func(s *api.State) { s.Books[1].Req.Queue = 4 }, api.ErrNone},
		{"a piece", func(s *api.State) { s.Books[0].Req.Pieces[0].N = 0 }, api.ErrRange},
		{"no bites", func(s *api.State) { s.Books[0].Bites = nil }, api.ErrForm},
		{"Clock above End", func(s *api.State) { s.Clock = api.End + 1 }, api.ErrRange},
		{"the same Id twice", func(s *api.State) { s.Books[1].Id = 1 }, api.ErrForm},
		{"over at Clock", func(s *api.State) { s.Clock = 15 }, api.ErrLate},
		{"9 of all", func(s *api.State) { s.Tree[0].Cap = rs(0, 9) }, api.ErrSum},
	}
}

// TestK1Do: each kind is its own call, of its own things.
func TestK1Do(t *testing.T) {
	small := want(1, 15, 40, api.Tight, 2, 2, 2, 8)
	submitted, _, _ := book.Submit(farm(), small)
	cancelled, _ := book.Cancel(farm(), 4)
	ticked, _, _ := book.Tick(farm(), 16)
	changed, _, _, _ := cut.Change(farm(), 1, rs(0, 3, 22, 6))
	for _, x := range []struct {
		name string
		act  api.Act
		must api.State
	}{
		{"Submit", submit(small), submitted},
		{"Submit, and what counts for nothing", api.Act{Kind: api.ActSubmit, N: -7, Req: small, Cap: rs(3, 3)}, submitted},
		{"Cancel", cancel(4), cancelled},
		{"Cancel, and what counts for nothing", api.Act{Kind: api.ActCancel, N: 4, Req: want(9, 9, 9, 9), Cap: rs(3, 3)}, cancelled},
		{"Tick", tick(16), ticked},
		{"Tick, and what counts for nothing", api.Act{Kind: api.ActTick, N: 16, Req: small, Cap: rs(0, 0)}, ticked},
		{"Change", change(1, rs(0, 3, 22, 6)), changed},
		{"Change, and what counts for nothing", api.Act{Kind: api.ActChange, N: 1, Req: want(0, 1, 2, 3, 4), Cap: rs(0, 3, 22, 6)}, changed},
	} {
		got, e := log.Do(farm(), x.act)
		if e != api.OK || !same(got, x.must) || same(got, farm()) {
			t.Errorf("%s: %v %d, not %v", x.name, got, e, x.must)
		}
		if e := plan.Check(got); e != api.OK {
			t.Errorf("%s: what comes is not right: %d", x.name, e)
		}
	}
}

// TestK1Errors: ErrKind, then the call's own, of the state first.
func TestK1Errors(t *testing.T) {
	check := func(name string, s api.State, x api.Act, want api.Errno) {
		t.Helper()
		if got, e := log.Do(s, x); e != want || !nothing(got) {
			t.Errorf("%s: %v: %v %d, not %d", name, x, got, e, want)
		}
	}
	for _, kind := range []int{math.MinInt, -1, 0, 5, 255, math.MaxInt} {
		check("no kind", farm(), api.Act{Kind: kind, N: 4, Req: want(0, 5, 9, api.All, 1, 1), Cap: rs(0, 5)}, api.ErrKind)
		for _, x := range wrongs() {
			check(x.name+", no kind", with(farm(), x.do), api.Act{Kind: kind}, api.ErrKind)
		}
	}
	for _, x := range wrongs() {
		for _, a := range []api.Act{submit(want(0, 5, 9, api.All, 1, 1)), submit(api.Request{}), cancel(1), cancel(9), tick(5), tick(-1), change(0, rs(0, 50)), change(9, nil)} {
			check(x.name, with(farm(), x.do), a, x.e)
		}
	}
	for _, x := range []struct {
		name string
		act  api.Act
		e    api.Errno
	}{
		{"an empty request", submit(api.Request{}), api.ErrKind},
		{"no pieces", submit(want(0, 5, 9, api.All)), api.ErrMany},
		{"no such queue", submit(want(4, 5, 9, api.All, 1, 1)), api.ErrNone},
		{"no such times", submit(want(0, 9, 9, api.All, 1, 1)), api.ErrRange},
		{"From below Clock", submit(want(0, 4, 9, api.All, 1, 1)), api.ErrLate},
		{"no place", submit(want(0, 13, 14, api.All, 1, 1)), api.ErrFull},
		{"no such book", cancel(2), api.ErrNone},
		{"no such time", tick(49), api.ErrRange},
		{"below Clock", tick(4), api.ErrLate},
		{"no such queue to change", change(4, rs(0, 5)), api.ErrNone},
		{"no room", change(0, rs(0, 51)), api.ErrForm},
		{"no Cap", change(0, nil), api.ErrForm},
	} {
		check(x.name, farm(), x.act, x.e)
	}
}

// written: an act, and its bytes.
type written struct {
	name  string
	act   api.Act
	bytes string
}

func writtens() []written {
	most := api.Act{Kind: 255, N: 255, Req: want(255, 255, 255, 255, 255, 255, 255, 255, 255, 255)}
	for range api.End {
		most.Cap = append(most.Cap, api.Run{At: 255, N: 255})
	}
	f := strings.Repeat("\xff", 6)
	return []written{
		{"an empty act", api.Act{}, "\x00\x00\x00\x00\x00\x00\x00\x00"},
		{"submit of two pieces is twelve bytes", submit(want(3, 2, 30, api.Order, 4, 3, 5, 6)), "\x01\x00\x03\x02\x1e\x03\x02\x04\x03\x05\x06\x00"},
		{"cancel", cancel(7), "\x02\x07\x00\x00\x00\x00\x00\x00"},
		{"tick", tick(48), "\x03\x30\x00\x00\x00\x00\x00\x00"},
		{"change", change(2, rs(0, 3, 22, 6)), "\x04\x02\x00\x00\x00\x00\x00\x02\x00\x03\x16\x06"},
		{"all of it", api.Act{Kind: 1, N: 2, Req: want(3, 4, 5, 6, 7, 8), Cap: rs(9, 10)}, "\x01\x02\x03\x04\x05\x06\x01\x07\x08\x01\x09\x0a"},
		{"as much as may be", most, f + "\x03" + f + "\x30" + strings.Repeat("\xff", 2*api.End)},
	}
}

// TestK2Write: the bytes, to the last; and what is written is read as it was.
func TestK2Write(t *testing.T) {
	for _, x := range writtens() {
		if got, e := log.Write(x.act); got != x.bytes || e != api.OK {
			t.Errorf("%s: %q %d, not %q", x.name, got, e, x.bytes)
		}
		if got, n, e := log.Replay(x.bytes); !sameActs(got, []api.Act{x.act}) || n != len(x.bytes) || e != api.OK {
			t.Errorf("%s: %v %d %d, not %v", x.name, got, n, e, x.act)
		}
	}
}

// fields: where each number of an act stands that has a piece and a run.
func fields(x *api.Act) []*int {
	return []*int{&x.Kind, &x.N, &x.Req.Queue, &x.Req.From, &x.Req.Until, &x.Req.Kind, &x.Req.Pieces[0].Len, &x.Req.Pieces[0].N, &x.Cap[0].At, &x.Cap[0].N}
}

// TestK2WriteRange: each number by itself must be from 0 to 255.
func TestK2WriteRange(t *testing.T) {
	make1 := func() api.Act { return api.Act{Req: want(0, 0, 0, 0, 0, 0), Cap: rs(0, 0)} }
	at := []int{0, 1, 2, 3, 4, 5, 7, 8, 10, 11} // where each of the fields stands in the bytes
	x := make1()
	for i := range fields(&x) {
		for _, n := range []int{1, 127, 128, 255} {
			x := make1()
			*fields(&x)[i] = n
			must := []byte("\x00\x00\x00\x00\x00\x00\x01\x00\x00\x01\x00\x00")
			must[at[i]] = byte(n)
			if got, e := log.Write(x); got != string(must) || e != api.OK {
				t.Errorf("field %d is %d: %q %d, not %q", i, n, got, e, must)
			}
		}
		for _, n := range []int{math.MinInt, -256, -1, 256, 257, 512, math.MaxInt} {
			x := make1()
			*fields(&x)[i] = n
			if got, e := log.Write(x); got != "" || e != api.ErrRange {
				t.Errorf("field %d is %d: %q %d", i, n, got, e)
			}
		}
	}
}

// TestK2WriteMany: so many pieces and runs may be; ErrRange is told ahead, of what is too much, too.
func TestK2WriteMany(t *testing.T) {
	make2 := func(p, r int) api.Act {
		return api.Act{Req: api.Request{Pieces: make([]api.Piece, p)}, Cap: make([]api.Run, r)}
	}
	for _, x := range []struct {
		p, r int
		e    api.Errno
	}{{3, 48, api.OK}, {4, 0, api.ErrMany}, {0, 49, api.ErrMany}, {4, 49, api.ErrMany}, {255, 255, api.ErrMany}, {256, 0, api.ErrRange}, {0, 256, api.ErrRange}} {
		got, e := log.Write(make2(x.p, x.r))
		if e != x.e || e != api.OK && got != "" || e == api.OK && len(got) != 8+2*x.p+2*x.r {
			t.Errorf("%d pieces, %d runs: %q %d, not %d", x.p, x.r, got, e, x.e)
		}
	}
	for _, n := range []int{-1, 256} {
		wide := []api.Act{make2(4, 0), make2(4, 0), make2(0, 49), make2(0, 49)}
		wide[0].N = n
		wide[1].Req.Pieces[3].N = n
		wide[2].Req.From = n
		wide[3].Cap[48].At = n
		for _, x := range wide {
			if got, e := log.Write(x); got != "" || e != api.ErrRange {
				t.Errorf("%v: %q %d", x, got, e)
			}
		}
	}
}

// TestK2Replay: up to the first place where there is no act.
func TestK2Replay(t *testing.T) {
	const one = "\x02\x07\x00\x00\x00\x00\x00\x00"
	const six = "\x01\x00\x03\x02\x1e\x03"
	for _, x := range []struct {
		name string
		text string
		acts []api.Act
		n    int
	}{
		{"nothing", "", nil, 0},
		{"too short", "\x02\x07\x00\x00\x00\x00\x00", nil, 0},
		{"one byte", "\x02", nil, 0},
		{"one", one, []api.Act{cancel(7)}, 8},
		{"one, and a byte", one + "\x02", []api.Act{cancel(7)}, 8},
		{"one, and all but a byte", one + one[:7], []api.Act{cancel(7)}, 8},
		{"two", one + one, []api.Act{cancel(7), cancel(7)}, 16},
		{"of no kind", "\x09" + one[1:] + one, []api.Act{{Kind: 9, N: 7}, cancel(7)}, 16},
		{"pieces are missing", six + "\x02\x04\x03\x05", nil, 0},
		{"how many runs is missing", six + "\x02\x04\x03\x05\x06", nil, 0},
		{"runs are missing", six + "\x00\x02\x00\x01\x02", nil, 0},
		{"three pieces", six + "\x03\x01\x02\x03\x04\x05\x06\x00", []api.Act{submit(want(3, 2, 30, 3, 1, 2, 3, 4, 5, 6))}, 14},
		{"four pieces", six + "\x04\x01\x02\x03\x04\x05\x06\x07\x08\x00" + one, nil, 0},
		{"255 pieces", six + "\xff" + strings.Repeat("\x00", 600), nil, 0},
		{"48 runs", six + "\x00\x30" + strings.Repeat("\x00", 96), []api.Act{{Kind: 1, Req: want(3, 2, 30, 3), Cap: make([]api.Run, 48)}}, 104},
		{"48 runs, less a byte", six + "\x00\x30" + strings.Repeat("\x00", 95), nil, 0},
		{"49 runs", six + "\x00\x31" + strings.Repeat("\x00", 98), nil, 0},
		{"one, and then four pieces", one + six + "\x04" + strings.Repeat("\x00", 50) + one, []api.Act{cancel(7)}, 8},
	} {
		if got, n, e := log.Replay(x.text); !sameActs(got, x.acts) || n != x.n || e != api.OK {
			t.Errorf("%s: %v %d %d, not %v %d", x.name, got, n, e, x.acts, x.n)
		}
	}
}

// TestK2ReplayLimits: MaxActs are told and no more; MaxBytes may be and no more.
func TestK2ReplayLimits(t *testing.T) {
	one, _ := log.Write(tick(9))
	for _, x := range []struct {
		name    string
		text    string
		acts, n int
		e       api.Errno
	}{
		{"59", strings.Repeat(one, 59), 59, 472, api.OK},
		{"60", strings.Repeat(one, 60), 60, 480, api.OK},
		{"60, and some bytes", strings.Repeat(one, 60) + one[:3], 60, 480, api.OK},
		{"61", strings.Repeat(one, 61), 60, 480, api.OK},
		{"as many bytes as may be", strings.Repeat(one, 512), 60, 480, api.OK},
		{"as many bytes as may be, and no act", strings.Repeat("\xff", api.MaxBytes), 0, 0, api.OK},
		{"a byte more", strings.Repeat(one, 512) + "\x00", 0, 0, api.ErrMany},
		{"far more", strings.Repeat(one, 1<<16), 0, 0, api.ErrMany},
	} {
		if got, n, e := log.Replay(x.text); len(got) != x.acts || n != x.n || e != x.e {
			t.Errorf("%s: %d acts, %d %d, not %d, %d %d", x.name, len(got), n, e, x.acts, x.n, x.e)
		}
	}
}

// drawn: numbers, the same each time.
type drawn uint64

func (d *drawn) below(n int) int {
	*d = *d*6364136223846793005 + 1442695040888963407
	return int(uint64(*d) >> 33 % uint64(n))
}

// act that is drawn: some have what counts for nothing.
func (d *drawn) act() api.Act {
	x := api.Act{Kind: 1 + d.below(5), N: d.below(10)}
	if d.below(2) == 0 {
		x.Kind = api.ActSubmit
	}
	if x.Kind == api.ActTick {
		x.N = d.below(api.End+2) / (1 + d.below(20))
	}
	if x.Kind == api.ActSubmit || d.below(6) == 0 {
		from := d.below(api.End)
		x.Req = want(d.below(5), from, from+1+d.below(api.End-from), 1+d.below(4))
		for range d.below(7) % 4 {
			x.Req.Pieces = append(x.Req.Pieces, api.Piece{Len: 1 + d.below(6), N: 1 + d.below(5)})
		}
	}
	if x.Kind == api.ActChange || d.below(6) == 0 {
		x.N %= 5
		for i := range d.below(4) {
			x.Cap = append(x.Cap, api.Run{At: 12 * i, N: d.below(13)})
		}
	}
	return x
}

// acts that are drawn, their log, and how long it is behind each of them.
func (d *drawn) log(n int) (acts []api.Act, text string, ends []int) {
	for range n {
		x := d.act()
		b, _ := log.Write(x)
		acts, text = append(acts, x), text+b
		ends = append(ends, len(text))
	}
	return acts, text, ends
}

// TestK2Cut: wherever a log is cut, the acts that are whole are told, and how many bytes they have.
func TestK2Cut(t *testing.T) {
	d := drawn(21)
	for range 12 {
		acts, text, ends := d.log(25)
		for end := range len(text) + 1 {
			n, bytes := 0, 0
			for n < len(ends) && ends[n] <= end {
				bytes = ends[n]
				n++
			}
			if got, k, e := log.Replay(text[:end]); !sameActs(got, acts[:n]) || k != bytes || e != api.OK {
				t.Fatalf("%q: %v %d %d, not %v %d", text[:end], got, k, e, acts[:n], bytes)
			}
		}
	}
}

// acted: does an act stand at the beginning of a text? How many bytes has it? (The promise once more.)
func acted(t string) (int, bool) {
	if len(t) < 7 || t[6] > api.MaxPieces {
		return 0, false
	}
	runs := 7 + 2*int(t[6])
	if len(t) <= runs || t[runs] > api.End {
		return 0, false
	}
	end := runs + 1 + 2*int(t[runs])
	return end, end <= len(t)
}

// TestK2Drawn: of any bytes, what is told is written as it was, and nothing more can be told.
func TestK2Drawn(t *testing.T) {
	d := drawn(22)
	var told, none int
	for range 4000 {
		b := make([]byte, d.below(200))
		for i := range b {
			b[i] = byte(d.below(3) * d.below(4))
			if d.below(30) == 0 {
				b[i] = byte(d.below(256))
			}
		}
		text := string(b)
		acts, n, e := log.Replay(text)
		again := ""
		for _, x := range acts {
			s, _ := log.Write(x)
			again += s
		}
		if e != api.OK || n > len(text) || again != text[:n] {
			t.Fatalf("%q: %v %d %d", text, acts, n, e)
		}
		if _, more := acted(text[n:]); more && len(acts) < api.MaxActs {
			t.Fatalf("%q: %v %d: there is one more", text, acts, n)
		}
		if len(acts) == 0 {
			none++
		}
		told += len(acts)
	}
	if told < 1000 || none < 500 {
		t.Errorf("drawn too little: %d %d", told, none)
	}
}

// TestK3Recover: the acts done one behind the other; one that has an error changes nothing, and counts.
func TestK3Recover(t *testing.T) {
	r1, r2 := want(3, 2, 30, api.Order, 4, 3, 5, 6), want(2, 3, 48, api.Any, 6, 4)
	acts := []api.Act{submit(r1), cancel(1), submit(r2), tick(3), tick(2), {Kind: 5}, change(0, rs(0, 9)), cancel(0)}
	b1 := api.Book{Id: 0, Req: r1, Bites: bs(0, 2, 1, 6)}
	b2 := api.Book{Id: 1, Req: r2, Bites: bs(0, 3)}
	nine := field()
	nine[0].Cap = rs(0, 9)
	musts := []api.State{
		{Tree: field()},
		{Next: 1, Tree: field(), Books: []api.Book{b1}},
		{Next: 1, Tree: field(), Books: []api.Book{b1}},
		{Next: 2, Tree: field(), Books: []api.Book{b1, b2}},
		{Clock: 3, Next: 2, Tree: field(), Books: []api.Book{b1, b2}},
		{Clock: 3, Next: 2, Tree: field(), Books: []api.Book{b1, b2}},
		{Clock: 3, Next: 2, Tree: field(), Books: []api.Book{b1, b2}},
		{Clock: 3, Next: 2, Tree: nine, Books: []api.Book{b1, {Id: 1, Req: r2, Bites: bs(0, 11)}}},
		{Clock: 3, Next: 2, Tree: nine, Books: []api.Book{{Id: 1, Req: r2, Bites: bs(0, 11)}}},
	}
	text := ""
	for n, must := range musts {
		if got, k, e := log.Recover(field(), text); k != n || e != api.OK || !same(got, must) {
			t.Errorf("%d acts: %v %d %d, not %v", n, got, k, e, must)
		}
		if got, k, e := log.Recover(field(), text+"\x01\x02"); k != n || e != api.OK || !same(got, must) {
			t.Errorf("%d acts, and two bytes: %v %d %d, not %v", n, got, k, e, must)
		}
		if n < len(acts) {
			b, _ := log.Write(acts[n])
			text += b
		}
	}
	ticks := ""
	for i := range api.MaxActs + 5 {
		b, _ := log.Write(tick(i / 2))
		ticks += b
	}
	if got, n, e := log.Recover(field(), ticks); n != api.MaxActs || e != api.OK || !same(got, api.State{Clock: 29, Tree: field()}) {
		t.Errorf("more than MaxActs: %v %d %d", got, n, e)
	}
}

// TestK3Errors: tree.Check's, then Replay's.
func TestK3Errors(t *testing.T) {
	long := strings.Repeat("\x00", api.MaxBytes+1)
	queues := func(do func(l []api.Queue)) []api.Queue {
		l := field()
		do(l)
		return l
	}
	for _, x := range []struct {
		name string
		l    []api.Queue
		text string
		e    api.Errno
	}{
		{"no queues", nil, "", api.ErrMany},
		{"six queues", make([]api.Queue, 6), "", api.ErrMany},
		{"no name", queues(func(l []api.Queue) { l[2].Name = "South" }), "", api.ErrName},
		{"no name, too long", queues(func(l []api.Queue) { l[2].Name = "South" }), long, api.ErrName},
		{"the same name", queues(func(l []api.Queue) { l[2].Name = "north" }), long, api.ErrThere},
		{"no Parent", queues(func(l []api.Queue) { l[2].Parent = 2 }), long, api.ErrRange},
		{"no Cap", queues(func(l []api.Queue) { l[2].Cap = rs(0, 51) }), long, api.ErrForm},
		{"too long", field(), long, api.ErrMany},
	} {
		if got, n, e := log.Recover(x.l, x.text); e != x.e || n != 0 || !nothing(got) {
			t.Errorf("%s: %v %d %d, not %d", x.name, got, n, e, x.e)
		}
	}
	if got, n, e := log.Recover(field(), long[1:]); e != api.OK || n != api.MaxActs || !same(got, api.State{Tree: field()}) {
		t.Errorf("as long as may be: %v %d %d", got, n, e)
	}
}

// TestK3Cut: wherever a log is cut, what is recovered is what was done by the acts that are whole; and that is right.
func TestK3Cut(t *testing.T) {
	d := drawn(23)
	var done, books int
	for range 8 {
		acts, text, ends := d.log(30)
		s, n := api.State{Tree: field()}, 0
		for end := range len(text) + 1 {
			if n < len(ends) && ends[n] == end {
				if x, e := log.Do(s, acts[n]); e == api.OK {
					s = x
					done++
				}
				n++
			}
			got, k, e := log.Recover(field(), text[:end])
			if k != n || e != api.OK || !same(got, s) {
				t.Fatalf("%q: %v %d %d, not %v %d", text[:end], got, k, e, s, n)
			}
			if e := plan.Check(got); e != api.OK {
				t.Fatalf("%q: %v is not right: %d", text[:end], got, e)
			}
			books = max(books, len(s.Books))
		}
	}
	if done < 50 || books < 3 {
		t.Errorf("drawn too little: %d %d", done, books)
	}
}

// TestP1: whatever is handed in, no call panics, and with an error there is nothing beside it.
func TestP1(t *testing.T) {
	odd := []int{math.MinInt, -1, 0, 1, 3, 4, api.End, 256, math.MaxInt}
	for _, a := range odd {
		for _, b := range odd {
			for _, c := range odd {
				acts := []api.Act{
					{Kind: a, N: b, Req: want(c, a, b, c, a, b), Cap: rs(a, b, 0, c)},
					{Kind: api.ActSubmit, Req: want(a, b, c, api.Tight, 1, 1)},
					{Kind: api.ActSubmit, Req: want(3, 5, 48, a, b, c)},
					{Kind: api.ActChange, N: a, Cap: rs(0, b, c, 5)},
					{Kind: a, N: b},
				}
				states := []api.State{
					farm(), {}, {Clock: a, Next: b, Tree: field()},
					with(farm(), func(s *api.State) { s.Books[0].Bites[0], s.Books[1].Req.From = api.Bite{Piece: a, At: b}, c }),
					with(farm(), func(s *api.State) { s.Tree[1].Parent, s.Tree[2].Cap = a, rs(0, b, c, a) }),
				}
				for _, x := range acts {
					for _, s := range states {
						if got, e := log.Do(s, x); e != api.OK && !nothing(got) {
							t.Fatalf("Do: %v %v: %v beside %d", s, x, got, e)
						}
					}
					if got, e := log.Write(x); e != api.OK && got != "" || e == api.OK && len(got) < 8 {
						t.Fatalf("Write: %v: %q beside %d", x, got, e)
					}
				}
				for _, s := range states {
					if got, n, e := log.Recover(s.Tree, "\x01"); e != api.OK && (n != 0 || !nothing(got)) {
						t.Fatalf("Recover: %v: %v %d beside %d", s.Tree, got, n, e)
					}
				}
			}
		}
	}
	for i := range 256 {
		text := strings.Repeat(string([]byte{byte(i)}), 400)
		for _, s := range []string{text, text[:7], text[:8], text[:9]} {
			log.Replay(s)
			log.Recover(field(), s)
		}
	}
}

// roomy: the same list, with spare room behind it that is as mark says.
func roomy[T any](l []T, mark T) []T {
	x := append(make([]T, 0, len(l)+5), l...)
	for i := len(l); i < cap(x); i++ {
		x[:cap(x)][i] = mark
	}
	return x
}

// spread: a list, up to its capacity.
func spread[T any](l []T) []T { return l[:cap(l)] }

// handed: a state and an act with spare room behind each list.
func handed(x api.Act) (api.State, api.Act) {
	s := farm()
	s.Tree = roomy(s.Tree, api.Queue{Name: "mark", Parent: 7})
	for i := range s.Tree {
		s.Tree[i].Cap = roomy(s.Tree[i].Cap, api.Run{At: 7, N: 7})
	}
	s.Books = roomy(s.Books, api.Book{Id: 5})
	for i := range s.Books {
		s.Books[i].Req.Pieces = roomy(s.Books[i].Req.Pieces, api.Piece{Len: 7, N: 7})
		s.Books[i].Bites = roomy(s.Books[i].Bites, api.Bite{Piece: 7, At: 7})
	}
	x.Req.Pieces = roomy(x.Req.Pieces, api.Piece{Len: 7, N: 7})
	x.Cap = roomy(x.Cap, api.Run{At: 7, N: 7})
	return s, x
}

// whole: all lists of a state and an act, spare room and all.
func whole(s api.State, x api.Act) []any {
	out := []any{s.Clock, s.Next, slices.Clone(spread(s.Tree)), slices.Clone(spread(s.Books)), x.Kind, x.N, x.Req, slices.Clone(spread(x.Req.Pieces)), slices.Clone(spread(x.Cap))}
	for _, q := range s.Tree {
		out = append(out, slices.Clone(spread(q.Cap)))
	}
	for _, b := range s.Books {
		out = append(out, slices.Clone(spread(b.Req.Pieces)), slices.Clone(spread(b.Bites)))
	}
	return out
}

// spoil writes over all that a state has, spare room and all: list by list.
func spoil(s api.State) {
	for _, q := range s.Tree {
		clear(spread(q.Cap))
	}
	for _, b := range s.Books {
		clear(spread(b.Bites))
		clear(spread(b.Req.Pieces))
	}
	clear(spread(s.Tree))
	clear(spread(s.Books))
}

// copied: a state that shares nothing with another one.
func copied(s api.State) api.State {
	s.Tree, s.Books = slices.Clone(s.Tree), slices.Clone(s.Books)
	for i := range s.Tree {
		s.Tree[i].Cap = slices.Clone(s.Tree[i].Cap)
	}
	for i := range s.Books {
		s.Books[i].Bites = slices.Clone(s.Books[i].Bites)
		s.Books[i].Req.Pieces = slices.Clone(s.Books[i].Req.Pieces)
	}
	return s
}

// TestP2: what is handed in is only read, and an answer shares nothing with it, nor with another answer, nor its lists with each other.
func TestP2(t *testing.T) {
	for _, a := range []api.Act{submit(want(1, 15, 40, api.Tight, 2, 2, 2, 8)), cancel(4), tick(6), change(1, rs(0, 3, 22, 6)), change(3, rs(0, 9)), {}} {
		s, x := handed(a)
		got, _ := log.Do(s, x)
		other, _ := log.Do(s, x)
		bytes, _ := log.Write(x)
		begun, _, _ := log.Recover(s.Tree, bytes)
		s1, x1 := handed(a)
		if !reflect.DeepEqual(whole(s, x), whole(s1, x1)) {
			t.Errorf("%v: what was handed in has changed: %v %v", a, s, x)
		}
		must, mustBegun := copied(got), copied(begun)
		spoil(s)
		spoil(other)
		clear(spread(x.Req.Pieces))
		clear(spread(x.Cap))
		if !same(got, must) || !same(begun, mustBegun) {
			t.Errorf("%v: the answer has changed: %v %v", a, got, begun)
		}
	}
	_, text, _ := func() (a []api.Act, s string, n []int) { d := drawn(24); return d.log(30) }()
	acts, _, _ := log.Replay(text)
	must, _, _ := log.Replay(text)
	for i := range acts {
		acts[i].Req.Pieces = append(acts[i].Req.Pieces, make([]api.Piece, 3)...)[:len(must[i].Req.Pieces)]
		acts[i].Cap = append(acts[i].Cap, rs(9, 9, 9, 9)...)[:len(must[i].Cap)]
	}
	if !sameActs(acts, must) {
		t.Errorf("lists of the answer share memory: %v, not %v", acts, must)
	}
}

// TestP3: the same question has the same answer, whatever was asked between.
func TestP3(t *testing.T) {
	all := func() (out []any) {
		d := drawn(25)
		acts, text, _ := d.log(25)
		for _, x := range acts {
			s, e := log.Do(farm(), x)
			b, f := log.Write(x)
			out = append(out, s, e, b, f)
		}
		l, n, e := log.Replay(text)
		s, k, f := log.Recover(field(), text)
		return append(out, l, n, e, s, k, f)
	}
	first := all()
	for _, x := range wrongs() {
		s := with(farm(), x.do)
		log.Do(s, tick(9))
		log.Recover(s.Tree, "\x03")
		log.Write(cancel(-1))
	}
	if again := all(); !reflect.DeepEqual(first, again) {
		t.Errorf("first %v, then %v", first, again)
	}
}

// TestP4: what is far more than it may be has its answer, too.
func TestP4(t *testing.T) {
	far := api.Act{Kind: api.ActChange, Cap: make([]api.Run, 1<<22)}
	if s, e := log.Do(farm(), far); e != api.ErrForm || !nothing(s) {
		t.Errorf("Do: %d", e)
	}
	if s, e := log.Write(far); s != "" || e == api.OK {
		t.Errorf("Write: %d", e)
	}
	long := strings.Repeat("\x00", 1<<24)
	if l, n, e := log.Replay(long); len(l) != 0 || n != 0 || e != api.ErrMany {
		t.Errorf("Replay: %d", e)
	}
	if s, n, e := log.Recover(field(), long); !nothing(s) || n != 0 || e != api.ErrMany {
		t.Errorf("Recover: %d", e)
	}
}
