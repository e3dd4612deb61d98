package ask_test

import (
	"math"
	"reflect"
	"slices"
	"testing"

	"acreage/api"
	"acreage/ask"
	"acreage/book"
	"acreage/cut"
	"acreage/plan"
)

// rs: runs from At and N in turn.
func rs(n ...int) []api.Run {
	f := []api.Run{}
	for i := 0; i+1 < len(n); i += 2 {
		f = append(f, api.Run{At: n[i], N: n[i+1]})
	}
	return f
}

// bs: bites from Piece and At in turn.
func bs(n ...int) []api.Bite {
	b := []api.Bite{}
	for i := 0; i+1 < len(n); i += 2 {
		b = append(b, api.Bite{Piece: n[i], At: n[i+1]})
	}
	return b
}

// want: a request; its pieces are Len and N in turn.
func want(q, from, until, kind int, n ...int) api.Request {
	r := api.Request{Queue: q, From: from, Until: until, Kind: kind}
	for i := 0; i+1 < len(n); i += 2 {
		r.Pieces = append(r.Pieces, api.Piece{Len: n[i], N: n[i+1]})
	}
	return r
}

// field: the queues of the document's examples.
func field() []api.Queue {
	return []api.Queue{
		{Name: "all", Parent: -1, Cap: rs(0, 10)},
		{Name: "north", Parent: 0, Cap: rs(0, 8, 20, 4)},
		{Name: "south", Parent: 0, Cap: rs(0, 6)},
		{Name: "barn", Parent: 1, Cap: rs(0, 8)},
	}
}

// farm: a state of two books, at 5: 3 of the barn from 8 to 12, and 6 from 13 to 18; 4 of the south from 9 to 15.
func farm() api.State {
	return api.State{Clock: 5, Next: 6, Tree: field(), Books: []api.Book{
		{Id: 1, Req: want(3, 2, 30, api.Order, 4, 3, 5, 6), Bites: bs(0, 8, 1, 13)},
		{Id: 4, Req: want(2, 3, 48, api.Any, 6, 4), Bites: bs(0, 9)},
	}}
}

// small: a request of the north that farm has a place for.
func small() api.Request { return want(1, 15, 40, api.Tight, 2, 2, 2, 8) }

func with(s api.State, do func(s *api.State)) api.State {
	do(&s)
	return s
}

// turn: what makes a state wrong, and which error it has then.
type turn struct {
	name string
	do   func(s *api.State)
	e    api.Errno
}

// wrongs: one of each of plan.Check's errors, and some edges.
func wrongs() []turn {
	return []turn{
		{"no queues", func(s *api.State) { s.Tree = nil }, api.ErrMany},
		{"no name", func(s *api.State) { s.Tree[1].Name = "" }, api.ErrName},
		{"the same name", func(s *api.State) { s.Tree[3].Name = "all" }, api.ErrThere},
		{"its own Parent", func(s *api.State) { s.Tree[3].Parent = 3 }, api.ErrRange},
		{"no Cap", func(s *api.State) { s.Tree[0].Cap = nil }, api.ErrForm},
		{"too many books", func(s *api.State) { s.Books = make([]api.Book, api.MaxBooks+1) }, api.ErrMany},
		{"an empty book", func(s *api.State) { s.Books[1] = api.Book{} }, api.ErrKind},
		{"no such queue", func(s *api.State) { s.Books[1].Req.Queue = 4 }, api.ErrNone},
		{"a piece", func(s *api.State) { s.Books[0].Req.Pieces[0].N = 0 }, api.ErrRange},
		{"no bites", func(s *api.State) { s.Books[0].Bites = nil }, api.ErrForm},
		{"Clock below 0", func(s *api.State) { s.Clock = -1 }, api.ErrRange},
		{"Next above MaxIds", func(s *api.State) { s.Next = api.MaxIds + 1 }, api.ErrRange},
		{"the same Id twice", func(s *api.State) { s.Books[1].Id = 1 }, api.ErrForm},
		{"over at Clock", func(s *api.State) { s.Clock = 15 }, api.ErrLate},
		{"9 of all", func(s *api.State) { s.Tree[0].Cap = rs(0, 9) }, api.ErrSum},
	}
}

// TestJ1BusyLeft: what is taken of a queue and of those under it; what its line has left.
func TestJ1BusyLeft(t *testing.T) {
	late := with(farm(), func(s *api.State) { s.Clock, s.Tree[0].Cap = 14, rs(0, 1, 14, 10) })
	for _, x := range []struct {
		name       string
		s          api.State
		q, t       int
		busy, left int
	}{
		{"at 13 all of it is taken", farm(), 0, 13, 10, 0},
		{"at 13, of the north", farm(), 1, 13, 6, 0},
		{"at 13, of the south", farm(), 2, 13, 4, 0},
		{"at 13, of the barn", farm(), 3, 13, 6, 0},
		{"at 8, of all", farm(), 0, 8, 3, 7},
		{"at 8, of the barn", farm(), 3, 8, 3, 5},
		{"at 8, of the south: its own is less", farm(), 2, 8, 0, 6},
		{"at 12, between the bites", farm(), 3, 12, 0, 6},
		{"at 17, the last time of it", farm(), 1, 17, 6, 2},
		{"at 18, when it is over", farm(), 1, 18, 0, 8},
		{"at 20: the north has less than the barn", farm(), 3, 20, 0, 4},
		{"at 0, before Clock", farm(), 0, 0, 0, 10},
		{"at 47, the last time", farm(), 2, 47, 0, 6},
		{"before Clock it may be below 0", late, 0, 9, 7, -6},
		{"and of those under it", late, 3, 9, 3, -6},
		{"at Clock it is not", late, 3, 14, 6, 0},
		{"no books, at End", api.State{Clock: api.End, Tree: field()}, 1, 47, 0, 4},
	} {
		if n, e := ask.Busy(x.s, x.q, x.t); n != x.busy || e != api.OK {
			t.Errorf("%s: Busy: %d %d, not %d", x.name, n, e, x.busy)
		}
		if n, e := ask.Left(x.s, x.q, x.t); n != x.left || e != api.OK {
			t.Errorf("%s: Left: %d %d, not %d", x.name, n, e, x.left)
		}
	}
}

// TestJ1BusyLeftErrors: the state's, ErrNone, ErrRange, in that order.
func TestJ1BusyLeftErrors(t *testing.T) {
	check := func(name string, s api.State, q, at int, want api.Errno) {
		t.Helper()
		if n, e := ask.Busy(s, q, at); n != 0 || e != want {
			t.Errorf("%s: Busy of %d at %d: %d %d, not %d", name, q, at, n, e, want)
		}
		if n, e := ask.Left(s, q, at); n != 0 || e != want {
			t.Errorf("%s: Left of %d at %d: %d %d, not %d", name, q, at, n, e, want)
		}
	}
	none, never := []int{math.MinInt, -1, 4, math.MaxInt}, []int{math.MinInt, -1, 48, 49, math.MaxInt}
	for _, at := range append(never, 13) {
		for _, q := range none {
			check("no such queue", farm(), q, at, api.ErrNone)
		}
		for _, x := range wrongs() {
			for _, q := range append(none, 0, 3) {
				check(x.name, with(farm(), x.do), q, at, x.e)
			}
		}
	}
	for _, at := range never {
		for q := range 4 {
			check("no such time", farm(), q, at, api.ErrRange)
		}
	}
}

// soon: what Soonest must answer (-1: false).
type soon struct {
	name string
	s    api.State
	r    api.Request
	at   int
}

func soons() []soon {
	crowd := api.State{Clock: 5, Next: api.MaxBooks, Tree: field()}
	for id := range api.MaxBooks {
		crowd.Books = append(crowd.Books, api.Book{Id: id, Req: want(2, 0, 48, api.Any, 1, 1), Bites: bs(0, 6+id)})
	}
	noIds := with(farm(), func(s *api.State) { s.Next = api.MaxIds })
	return []soon{
		{"without a gap", farm(), small(), 16},
		{"From is Clock", farm(), want(0, 5, 48, api.Any, 3, 10), 5},
		{"at 0", api.State{Tree: field()}, want(0, 0, 48, api.Any, 24, 10), 0},
		{"none", farm(), want(0, 13, 15, api.Any, 1, 1), -1},
		{"All: the piece behind begins sooner", farm(), want(2, 5, 48, api.All, 5, 6, 3, 6), 5},
		{"All: the last of three begins first", farm(), want(2, 5, 48, api.All, 6, 6, 5, 6, 2, 6), 5},
		{"All: the first piece begins first", farm(), want(2, 5, 48, api.All, 3, 6, 5, 6), 5},
		{"All: one has none", farm(), want(2, 5, 23, api.All, 3, 6, 6, 6), -1},
		{"Any: the second piece", farm(), want(3, 18, 48, api.Any, 3, 8, 2, 3), 18},
		{"Any: the first piece that has one, be it later", farm(), want(3, 8, 48, api.Any, 2, 8, 2, 2), 18},
		{"Order", farm(), want(2, 6, 48, api.Order, 3, 6, 3, 6), 6},
		{"at the last time", api.State{Clock: 47, Tree: field()}, want(0, 47, 48, api.All, 1, 10), 47},
		{"no Id is left", noIds, small(), 16},
		{"no Id is left, and none is found", noIds, want(0, 13, 15, api.Any, 1, 1), -1},
		{"no more books", crowd, want(2, 6, 48, api.Any, 2, 6), 18},
	}
}

// TestJ1Soonest: the time at which the first bite would begin; how many books and Ids there are counts for nothing.
func TestJ1Soonest(t *testing.T) {
	for _, x := range soons() {
		at, is, e := ask.Soonest(x.s, x.r)
		if e != api.OK || is != (x.at >= 0) || at != max(0, x.at) {
			t.Errorf("%s: %d %v %d, not %d", x.name, at, is, e, x.at)
		}
	}
}

// TestJ1SoonestErrors: the state's, the request's, ErrLate, in that order.
func TestJ1SoonestErrors(t *testing.T) {
	check := func(name string, s api.State, r api.Request, want api.Errno) {
		t.Helper()
		if at, is, e := ask.Soonest(s, r); at != 0 || is || e != want {
			t.Errorf("%s: %d %v %d, not %d", name, at, is, e, want)
		}
	}
	late := want(0, 4, 14, api.Any, 9, 10)
	for _, x := range wrongs() {
		for _, r := range []api.Request{small(), {}, late} {
			check(x.name, with(farm(), x.do), r, x.e)
		}
	}
	check("an empty request", farm(), api.Request{}, api.ErrKind)
	check("kind, pieces, queue, late", farm(), want(9, 1, 0, 5), api.ErrKind)
	check("pieces, queue, late", farm(), want(9, 1, 0, api.All), api.ErrMany)
	check("four pieces", farm(), want(0, 5, 9, api.All, 1, 1, 1, 1, 1, 1, 1, 1), api.ErrMany)
	check("queue, late", farm(), want(4, 1, 0, api.All, 1, 1), api.ErrNone)
	check("range, late", farm(), want(3, 4, 4, api.All, 1, 1), api.ErrRange)
	check("Until above End", farm(), want(3, 9, 49, api.All, 1, 1), api.ErrRange)
	check("a piece", farm(), want(3, 9, 48, api.All, 25, 1), api.ErrRange)
	check("just below Clock", farm(), want(3, 4, 48, api.All, 1, 1), api.ErrLate)
	check("late, and none is found", farm(), late, api.ErrLate)
	check("at End", api.State{Clock: api.End, Tree: field()}, want(0, 47, 48, api.Any, 1, 1), api.ErrLate)
}

// drawn: numbers, the same each time.
type drawn uint64

func (d *drawn) below(n int) int {
	*d = *d*6364136223846793005 + 1442695040888963407
	return int(uint64(*d) >> 33 % uint64(n))
}

// wish that is drawn: right, but for its From, which may be late.
func (d *drawn) wish(s api.State) api.Request {
	from := min(47, max(0, s.Clock+d.below(12)-1))
	r := want(d.below(len(s.Tree)), from, from+1+d.below(api.End-from), 1+d.below(4))
	for range 1 + d.below(api.MaxPieces) {
		r.Pieces = append(r.Pieces, api.Piece{Len: 1 + d.below(6), N: 1 + d.below(6)})
	}
	return r
}

// next: a state that is drawn, from that ahead of it.
func (d *drawn) next(s api.State) api.State {
	var x api.State
	var e api.Errno
	switch d.below(8) {
	case 0:
		x, _, e = book.Tick(s, min(api.End, s.Clock+d.below(4)))
	case 1:
		x, _, _, e = cut.Change(s, d.below(len(s.Tree)), rs(0, d.below(10), 1+d.below(47), 10+d.below(5)))
	default:
		x, _, e = book.Submit(s, d.wish(s))
	}
	if e != api.OK {
		return s
	}
	return x
}

// said: what runs say at a time.
func said(f []api.Run, at int) int {
	n := 0
	for _, r := range f {
		if r.At <= at {
			n = r.N
		}
	}
	return n
}

// busy: what is taken of a queue at a time.
func busy(s api.State, q, at int) int {
	n := 0
	for _, b := range s.Books {
		p := b.Req.Queue
		for p > q {
			p = s.Tree[p].Parent
		}
		for _, x := range b.Bites {
			if piece := b.Req.Pieces[x.Piece]; p == q && x.At <= at && at < x.At+piece.Len {
				n += piece.N
			}
		}
	}
	return n
}

// left: the least that is left in a queue's line at a time.
func left(s api.State, q, at int) int {
	least := api.MaxNum
	for p := q; p >= 0; p = s.Tree[p].Parent {
		least = min(least, said(s.Tree[p].Cap, at)-busy(s, p, at))
	}
	return least
}

// TestJ1Drawn: Busy and Left at times that are drawn; Soonest against what Submit gives.
func TestJ1Drawn(t *testing.T) {
	d := drawn(11)
	found, full := 0, 0
	for range 40 {
		s, _ := plan.Begin(field())
		for range 25 {
			s = d.next(s)
			q := d.below(len(s.Tree))
			for range 8 {
				at := d.below(api.End)
				if n, e := ask.Busy(s, q, at); n != busy(s, q, at) || e != api.OK {
					t.Fatalf("%v: Busy of %d at %d: %d %d, not %d", s, q, at, n, e, busy(s, q, at))
				}
				if n, e := ask.Left(s, q, at); n != left(s, q, at) || e != api.OK {
					t.Fatalf("%v: Left of %d at %d: %d %d, not %d", s, q, at, n, e, left(s, q, at))
				}
			}
			r := d.wish(s)
			at, is, e := ask.Soonest(s, r)
			x, _, f := book.Submit(s, r)
			switch {
			case f == api.ErrMany && e == api.OK: // Soonest does not ask for how many there are
				continue
			case f == api.ErrFull:
				full++
				if at != 0 || is || e != api.OK {
					t.Fatalf("%v, %v: %d %v %d, though it is full", s, r, at, is, e)
				}
				continue
			case f != e:
				t.Fatalf("%v, %v: %d, not %d", s, r, e, f)
			case f != api.OK:
				continue
			}
			found++
			first := api.End
			for _, b := range x.Books[len(x.Books)-1].Bites {
				first = min(first, b.At)
			}
			if at != first || !is {
				t.Fatalf("%v, %v: %d %v, not %d", s, r, at, is, first)
			}
		}
	}
	if found < 100 || full < 100 {
		t.Errorf("drawn too much of one sort: %d %d", found, full)
	}
}

// TestP1: whatever is handed in, no call panics, and with an error or a false there is nothing beside it.
func TestP1(t *testing.T) {
	odd := []int{math.MinInt, -1, 0, 1, 3, api.End, math.MaxInt}
	for _, a := range odd {
		for _, b := range odd {
			for _, c := range odd {
				states := []api.State{
					farm(), {}, {Clock: a, Next: b}, {Clock: a, Tree: field()},
					with(farm(), func(s *api.State) { s.Clock, s.Next, s.Books[0].Id = a, b, c }),
					with(farm(), func(s *api.State) { s.Books[0].Bites[0], s.Books[1].Req.From = api.Bite{Piece: a, At: b}, c }),
					with(farm(), func(s *api.State) { s.Tree[1].Parent, s.Tree[2].Cap = a, rs(0, b, c, a) }),
				}
				for _, s := range states {
					if n, e := ask.Busy(s, a, b); e != api.OK && n != 0 {
						t.Fatalf("Busy: %v: %d beside %d", s, n, e)
					}
					if n, e := ask.Left(s, a, b); e != api.OK && n != 0 {
						t.Fatalf("Left: %v: %d beside %d", s, n, e)
					}
					for _, r := range []api.Request{want(a, b, c, api.All, 1, 1), want(3, 5, 48, a, b, c), want(0, a, b, api.Tight, c, 1, 2, 2), {}} {
						if at, is, e := ask.Soonest(s, r); (e != api.OK || !is) && (is || at != 0) {
							t.Fatalf("Soonest: %v %v: %d %v beside %d", s, r, at, is, e)
						}
					}
				}
			}
		}
	}
}

// roomy: the same list, with spare room behind it that is as mark says.
func roomy[T any](l []T, mark T) []T {
	x := append(make([]T, 0, len(l)+5), l...)
	for i := len(l); i < cap(x); i++ {
		x[:cap(x)][i] = mark
	}
	return x
}

// handed: a state and a request with spare room behind each list.
func handed() (api.State, api.Request) {
	s, r := farm(), small()
	s.Tree = roomy(s.Tree, api.Queue{Name: "mark", Parent: 7})
	for i := range s.Tree {
		s.Tree[i].Cap = roomy(s.Tree[i].Cap, api.Run{At: 7, N: 7})
	}
	s.Books = roomy(s.Books, api.Book{Id: 5})
	for i := range s.Books {
		s.Books[i].Req.Pieces = roomy(s.Books[i].Req.Pieces, api.Piece{Len: 7, N: 7})
		s.Books[i].Bites = roomy(s.Books[i].Bites, api.Bite{Piece: 7, At: 7})
	}
	r.Pieces = roomy(r.Pieces, api.Piece{Len: 7, N: 7})
	return s, r
}

// spread: a list, up to its capacity.
func spread[T any](l []T) []T { return l[:cap(l)] }

// whole: all lists of a state and a request, spare room and all.
func whole(s api.State, r api.Request) []any {
	out := []any{s.Clock, s.Next, spread(s.Tree), spread(s.Books), r, spread(r.Pieces)}
	for _, q := range s.Tree {
		out = append(out, spread(q.Cap))
	}
	for _, b := range s.Books {
		out = append(out, spread(b.Req.Pieces), spread(b.Bites))
	}
	return out
}

// TestP2: what is handed in is only read.
func TestP2(t *testing.T) {
	s, r := handed()
	for kind := api.All; kind <= api.Tight; kind++ {
		x := r
		x.Kind = kind
		ask.Soonest(s, x)
	}
	for q := range 5 {
		for at := range 50 {
			ask.Busy(s, q, at)
			ask.Left(s, q, at)
		}
	}
	s1, r1 := handed()
	if !reflect.DeepEqual(whole(s, r), whole(s1, r1)) {
		t.Errorf("what was handed in has changed: %v %v", s, r)
	}
}

// TestP3: the same question has the same answer, whatever was asked between.
func TestP3(t *testing.T) {
	all := func() (out []int) {
		for _, x := range soons() {
			at, _, e := ask.Soonest(x.s, x.r)
			out = append(out, at, int(e))
		}
		for at := range 50 {
			n, e := ask.Busy(farm(), at%5, at)
			m, f := ask.Left(farm(), at%5, at)
			out = append(out, n, int(e), m, int(f))
		}
		return out
	}
	first := all()
	for _, x := range wrongs() {
		s := with(farm(), x.do)
		ask.Busy(s, 0, 13)
		ask.Left(s, 0, 13)
		ask.Soonest(s, small())
	}
	if again := all(); !slices.Equal(first, again) {
		t.Errorf("first %v, then %v", first, again)
	}
}

// TestP4: what is far more than it may be has its answer, too.
func TestP4(t *testing.T) {
	many := with(farm(), func(s *api.State) { s.Books = make([]api.Book, 1<<18) })
	if n, e := ask.Busy(many, 0, 0); n != 0 || e != api.ErrMany {
		t.Errorf("Busy: %d %d", n, e)
	}
	if n, e := ask.Left(many, 0, 0); n != 0 || e != api.ErrMany {
		t.Errorf("Left: %d %d", n, e)
	}
	r := small()
	r.Pieces = make([]api.Piece, 1<<18)
	for _, s := range []api.State{many, farm()} {
		if at, is, e := ask.Soonest(s, r); at != 0 || is || e != api.ErrMany {
			t.Errorf("Soonest: %d %v %d", at, is, e)
		}
	}
}
