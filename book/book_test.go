package book_test

import (
	"math"
	"reflect"
	"slices"
	"testing"

	"acreage/api"
	"acreage/book"
	"acreage/place"
	"acreage/plan"
)

// rs: runs from At and N in turn.
func rs(n ...int) []api.Run {
	f := []api.Run{}
	for i := 0; i+1 < len(n); i += 2 {
		f = append(f, api.Run{At: n[i], N: n[i+1]})
	}
	return f
}

// bs: bites from Piece and At in turn.
func bs(n ...int) []api.Bite {
	b := []api.Bite{}
	for i := 0; i+1 < len(n); i += 2 {
		b = append(b, api.Bite{Piece: n[i], At: n[i+1]})
	}
	return b
}

// want: a request; its pieces are Len and N in turn.
func want(q, from, until, kind int, n ...int) api.Request {
	r := api.Request{Queue: q, From: from, Until: until, Kind: kind}
	for i := 0; i+1 < len(n); i += 2 {
		r.Pieces = append(r.Pieces, api.Piece{Len: n[i], N: n[i+1]})
	}
	return r
}

// field: the queues of the document's examples.
func field() []api.Queue {
	return []api.Queue{
		{Name: "all", Parent: -1, Cap: rs(0, 10)},
		{Name: "north", Parent: 0, Cap: rs(0, 8, 20, 4)},
		{Name: "south", Parent: 0, Cap: rs(0, 6)},
		{Name: "barn", Parent: 1, Cap: rs(0, 8)},
	}
}

// farm: a state of two books, at 5; the first one is over at 18, the second one at 15.
func farm() api.State {
	return api.State{Clock: 5, Next: 6, Tree: field(), Books: []api.Book{
		{Id: 1, Req: want(3, 2, 30, api.Order, 4, 3, 5, 6), Bites: bs(0, 8, 1, 13)},
		{Id: 4, Req: want(2, 3, 48, api.Any, 6, 4), Bites: bs(0, 9)},
	}}
}

// small: a request of the north that farm has a place for.
func small() api.Request { return want(1, 15, 40, api.Tight, 2, 2, 2, 8) }

// crowd: as many books as may be, each of one time, from 6 on.
func crowd() api.State {
	s := api.State{Clock: 5, Next: api.MaxBooks, Tree: field()}
	for id := range api.MaxBooks {
		s.Books = append(s.Books, api.Book{Id: id, Req: want(2, 0, 48, api.Any, 1, 1), Bites: bs(0, 6+id)})
	}
	return s
}

// nothing: is the state its zero value?
func nothing(s api.State) bool {
	return s.Clock == 0 && s.Next == 0 && len(s.Tree) == 0 && len(s.Books) == 0
}

// same: do both states say the same? (An empty list may be nil or not.)
func same(a, b api.State) bool {
	if a.Clock != b.Clock || a.Next != b.Next || !reflect.DeepEqual(a.Tree, b.Tree) || len(a.Books) != len(b.Books) {
		return false
	}
	for i := range a.Books {
		if !reflect.DeepEqual(a.Books[i], b.Books[i]) {
			return false
		}
	}
	return true
}

// turn: what makes a state wrong, and which error it has then.
type turn struct {
	name string
	do   func(s *api.State)
	e    api.Errno
}

// wrongs: one of each of plan.Check's errors, and some edges.
func wrongs() []turn {
	return []turn{
		{"no queues", func(s *api.State) { s.Tree = nil }, api.ErrMany},
		{"no name", func(s *api.State) { s.Tree[1].Name = "" }, api.ErrName},
		{"the same name", func(s *api.State) { s.Tree[3].Name = "all" }, api.ErrThere},
		{"its own Parent", func(s *api.State) { s.Tree[3].Parent = 3 }, api.ErrRange},
		{"no Cap", func(s *api.State) { s.Tree[0].Cap = nil }, api.ErrForm},
		{"too many books", func(s *api.State) { s.Books = make([]api.Book, api.MaxBooks+1) }, api.ErrMany},
		{"an empty book", func(s *api.State) { s.Books[1] = api.Book{} }, api.ErrKind},
		{"no such queue", func(s *api.State) { s.Books[1].Req.Queue = 4 }, api.ErrNone},
		{"a piece", func(s *api.State) { s.Books[0].Req.Pieces[0].N = 0 }, api.ErrRange},
		{"no bites", func(s *api.State) { s.Books[0].Bites = nil }, api.ErrForm},
		{"Clock below 0", func(s *api.State) { s.Clock = -1 }, api.ErrRange},
		{"Clock above End", func(s *api.State) { s.Clock = api.End + 1 }, api.ErrRange},
		{"Next above MaxIds", func(s *api.State) { s.Next = api.MaxIds + 1 }, api.ErrRange},
		{"the same Id twice", func(s *api.State) { s.Books[1].Id = 1 }, api.ErrForm},
		{"Next is the last Id", func(s *api.State) { s.Next = 4 }, api.ErrForm},
		{"over at Clock", func(s *api.State) { s.Clock = 15 }, api.ErrLate},
		{"9 of all", func(s *api.State) { s.Tree[0].Cap = rs(0, 9) }, api.ErrSum},
	}
}

// submitted: what Submit must answer.
type submitted struct {
	name  string
	s     api.State
	r     api.Request
	bites []api.Bite // nil: ErrFull
}

func with(s api.State, do func(s *api.State)) api.State {
	do(&s)
	return s
}

func submits() []submitted {
	return []submitted{
		{"without a gap, at 16 and at 18", farm(), small(), bs(0, 16, 1, 18)},
		{"in the first state", api.State{Tree: field()}, want(0, 0, 48, api.All, 24, 10, 24, 10), bs(0, 0, 1, 24)},
		{"From is Clock", farm(), want(0, 5, 48, api.Any, 3, 10), bs(0, 5)},
		{"as wide as what is left", farm(), want(0, 9, 15, api.All, 4, 3), bs(0, 9)},
		{"one more than is left", farm(), want(0, 9, 12, api.All, 3, 4), nil},
		{"at 13 all of it is taken", farm(), want(2, 13, 15, api.Any, 1, 1), nil},
		{"those above have less: the north", farm(), want(3, 20, 48, api.Any, 1, 5), nil},
		{"those above have just so much", farm(), want(3, 20, 48, api.Any, 1, 4), bs(0, 20)},
		{"of those above, not beside", farm(), want(2, 8, 48, api.Any, 2, 6), bs(0, 18)},
		{"All: a piece behind begins sooner", farm(), want(2, 5, 48, api.All, 5, 6, 3, 6), bs(0, 18, 1, 5)},
		{"All: in what the ones ahead left", farm(), want(1, 20, 48, api.All, 4, 3, 4, 2), bs(0, 20, 1, 24)},
		{"Any: the second piece", farm(), want(3, 18, 48, api.Any, 3, 8, 2, 3), bs(1, 18)},
		{"Order: with a gap", farm(), want(2, 5, 48, api.Order, 3, 6, 3, 6), bs(0, 5, 1, 18)},
		{"just over by Until", farm(), want(0, 18, 20, api.Any, 2, 10), bs(0, 18)},
		{"not over by Until", farm(), want(0, 18, 20, api.Any, 3, 10), nil},
		{"room before Until, but not after From", farm(), want(0, 13, 16, api.Any, 3, 6), nil},
		{"the last Id that may be", with(farm(), func(s *api.State) { s.Next = api.MaxIds - 1 }), small(), bs(0, 16, 1, 18)},
		{"the last book that may be", with(crowd(), func(s *api.State) { s.Books = s.Books[1:] }), want(2, 6, 48, api.Any, 1, 6), bs(0, 6)},
		{"one time is left", api.State{Clock: 47, Tree: field()}, want(0, 47, 48, api.Tight, 1, 10), bs(0, 47)},
		{"too much was taken before Clock alone", with(farm(), func(s *api.State) { s.Clock, s.Tree[0].Cap = 14, rs(0, 0, 14, 10) }), small(), bs(0, 16, 1, 18)},
	}
}

// TestH1Submit: a book behind all, with Next for its Id; ErrFull, if there is no place; all else stays.
func TestH1Submit(t *testing.T) {
	for _, x := range submits() {
		got, id, e := book.Submit(x.s, x.r)
		if x.bites == nil {
			if e != api.ErrFull || id != 0 || !nothing(got) {
				t.Errorf("%s: %v %d %d, not full", x.name, got, id, e)
			}
			continue
		}
		must := x.s
		must.Books = append(slices.Clone(x.s.Books), api.Book{Id: x.s.Next, Req: x.r, Bites: x.bites})
		must.Next++
		if e != api.OK || id != x.s.Next || !same(got, must) {
			t.Errorf("%s: %v %d %d, not %v", x.name, got, id, e, must)
		}
		if e := plan.Check(got); e != api.OK {
			t.Errorf("%s: what comes is not right: %d", x.name, e)
		}
	}
}

// TestH1SubmitErrors: which is told, where several apply: the state's, the request's, ErrLate, ErrMany, ErrFull.
func TestH1SubmitErrors(t *testing.T) {
	full := want(0, 13, 14, api.Any, 1, 1)
	lateFull := want(0, 4, 14, api.Any, 9, 10)
	noIds := with(farm(), func(s *api.State) { s.Next = api.MaxIds })
	noMore := crowd()
	for _, x := range []struct {
		name string
		s    api.State
		r    api.Request
		e    api.Errno
	}{
		{"an empty request", farm(), api.Request{}, api.ErrKind},
		{"kind, pieces, queue, late", farm(), want(9, 1, 0, 5), api.ErrKind},
		{"pieces, queue, late", farm(), want(9, 1, 0, api.All), api.ErrMany},
		{"four pieces", farm(), want(0, 5, 9, api.All, 1, 1, 1, 1, 1, 1, 1, 1), api.ErrMany},
		{"queue, late", farm(), want(4, 1, 0, api.All, 1, 1), api.ErrNone},
		{"queue below 0", farm(), want(-1, 9, 20, api.All, 1, 1), api.ErrNone},
		{"range, late", farm(), want(3, 4, 4, api.All, 1, 1), api.ErrRange},
		{"From below 0", farm(), want(3, -1, 20, api.All, 1, 1), api.ErrRange},
		{"Until above End", farm(), want(3, 9, 49, api.All, 1, 1), api.ErrRange},
		{"Len 25", farm(), want(3, 9, 48, api.All, 25, 1), api.ErrRange},
		{"N 51", farm(), want(3, 9, 48, api.All, 1, 51), api.ErrRange},
		{"From just below Clock", farm(), want(3, 4, 48, api.All, 1, 1), api.ErrLate},
		{"late, ahead of full", farm(), lateFull, api.ErrLate},
		{"late, ahead of many", noIds, lateFull, api.ErrLate},
		{"late, ahead of many books", noMore, lateFull, api.ErrLate},
		{"no Id is left", noIds, small(), api.ErrMany},
		{"no Id is left, and it is full", noIds, full, api.ErrMany},
		{"no more books", noMore, small(), api.ErrMany},
		{"no more books, and it is full", noMore, want(2, 6, 7, api.Any, 1, 6), api.ErrMany},
		{"no more books, the request wrong", noMore, want(4, 1, 0, api.All, 1, 1), api.ErrNone},
		{"full", farm(), full, api.ErrFull},
		{"at End", api.State{Clock: api.End, Tree: field()}, want(0, 47, 48, api.Any, 1, 1), api.ErrLate},
	} {
		if got, id, e := book.Submit(x.s, x.r); e != x.e || id != 0 || !nothing(got) {
			t.Errorf("%s: %v %d %d, not %d", x.name, got, id, e, x.e)
		}
	}
	for _, x := range wrongs() {
		for _, r := range []api.Request{small(), {}, lateFull} {
			if got, id, e := book.Submit(with(farm(), x.do), r); e != x.e || id != 0 || !nothing(got) {
				t.Errorf("%s: %v %d %d, not %d", x.name, got, id, e, x.e)
			}
		}
	}
}

// TestH1Cancel: the book is there no more, and all else is as it was.
func TestH1Cancel(t *testing.T) {
	for id, i := range map[int]int{1: 0, 4: 1} {
		got, e := book.Cancel(farm(), id)
		must := with(farm(), func(s *api.State) { s.Books = slices.Delete(s.Books, i, i+1) })
		if e != api.OK || !same(got, must) {
			t.Errorf("Id %d: %v %d, not %v", id, got, e, must)
		}
		if again, e := book.Cancel(got, id); e != api.ErrNone || !nothing(again) {
			t.Errorf("Id %d once more: %v %d", id, again, e)
		}
	}
	for id := range api.MaxBooks {
		got, e := book.Cancel(crowd(), id)
		must := with(crowd(), func(s *api.State) { s.Books = slices.Delete(s.Books, id, id+1) })
		if e != api.OK || !same(got, must) {
			t.Errorf("Id %d of many: %v %d", id, got, e)
		}
	}
}

// TestH1CancelErrors: plan.Find's: the state's ahead of ErrNone.
func TestH1CancelErrors(t *testing.T) {
	for _, id := range []int{math.MinInt, -1, 0, 2, 3, 5, 6, api.MaxIds, math.MaxInt} {
		if got, e := book.Cancel(farm(), id); e != api.ErrNone || !nothing(got) {
			t.Errorf("Id %d: %v %d", id, got, e)
		}
	}
	for _, x := range wrongs() {
		for _, id := range []int{-1, 1, 4, 99} {
			if got, e := book.Cancel(with(farm(), x.do), id); e != x.e || !nothing(got) {
				t.Errorf("%s, Id %d: %v %d, not %d", x.name, id, got, e, x.e)
			}
		}
	}
}

// TestH2Tick: the Clock, and which books are there still.
func TestH2Tick(t *testing.T) {
	for _, x := range []struct {
		t   int
		ids []int // that stay
	}{
		{5, []int{1, 4}}, {6, []int{1, 4}}, {14, []int{1, 4}}, {15, []int{1}}, {16, []int{1}}, {17, []int{1}}, {18, nil}, {30, nil}, {47, nil}, {48, nil},
	} {
		got, n, e := book.Tick(farm(), x.t)
		must := farm()
		must.Clock = x.t
		must.Books = slices.DeleteFunc(must.Books, func(b api.Book) bool { return !slices.Contains(x.ids, b.Id) })
		if e != api.OK || n != 2-len(x.ids) || !same(got, must) {
			t.Errorf("at %d: %v %d %d, not %v", x.t, got, n, e, must)
		}
		if e := plan.Check(got); e != api.OK {
			t.Errorf("at %d: what comes is not right: %d", x.t, e)
		}
	}
	for at := 5; at <= api.End; at++ {
		got, n, e := book.Tick(crowd(), at)
		gone := min(max(at-6, 0), api.MaxBooks)
		must := with(crowd(), func(s *api.State) { s.Clock, s.Books = at, s.Books[gone:] })
		if e != api.OK || n != gone || !same(got, must) {
			t.Errorf("of many, at %d: %v %d %d", at, got, n, e)
		}
	}
}

// TestH2Over: a book is over when all of its bites are, whichever of them stands last.
func TestH2Over(t *testing.T) {
	s := api.State{Next: 1, Tree: field(), Books: []api.Book{{Req: want(3, 0, 48, api.All, 5, 1, 1, 1), Bites: bs(0, 20, 1, 2)}}}
	for at, want := range map[int]int{3: 0, 24: 0, 25: 1, 26: 1} {
		if got, n, e := book.Tick(s, at); n != want || e != api.OK || len(got.Books) != 1-want {
			t.Errorf("at %d: %v %d %d", at, got, n, e)
		}
	}
}

// TestH2Errors: the state's, ErrRange, ErrLate, in that order.
func TestH2Errors(t *testing.T) {
	for at, want := range map[int]api.Errno{math.MinInt: api.ErrRange, -1: api.ErrRange, 0: api.ErrLate, 4: api.ErrLate, 49: api.ErrRange, math.MaxInt: api.ErrRange} {
		if got, n, e := book.Tick(farm(), at); e != want || n != 0 || !nothing(got) {
			t.Errorf("at %d: %v %d %d, not %d", at, got, n, e, want)
		}
	}
	end := api.State{Clock: api.End, Tree: field()}
	if got, n, e := book.Tick(end, api.End); e != api.OK || n != 0 || !same(got, end) {
		t.Errorf("at End once more: %v %d %d", got, n, e)
	}
	if got, n, e := book.Tick(end, 47); e != api.ErrLate || n != 0 || !nothing(got) {
		t.Errorf("back from End: %v %d %d", got, n, e)
	}
	for _, x := range wrongs() {
		for _, at := range []int{-1, 4, 15, 49} {
			if got, n, e := book.Tick(with(farm(), x.do), at); e != x.e || n != 0 || !nothing(got) {
				t.Errorf("%s, at %d: %v %d %d, not %d", x.name, at, got, n, e, x.e)
			}
		}
	}
}

// drawn: numbers, the same each time.
type drawn uint64

func (d *drawn) below(n int) int {
	*d = *d*6364136223846793005 + 1442695040888963407
	return int(uint64(*d) >> 33 % uint64(n))
}

// queues that are drawn.
func (d *drawn) queues() []api.Queue {
	var l []api.Queue
	for i := range 1 + d.below(api.MaxQueues) {
		n := 3 + d.below(15)
		l = append(l, api.Queue{Name: string(rune('a' + i)), Parent: d.below(i+1) - 1, Cap: rs(0, n, 1+d.below(47), n+1+d.below(5))})
	}
	return l
}

// wish that is drawn: right, but for its From, which may be late, and its queue, which may be none.
func (d *drawn) wish(s api.State) api.Request {
	from := min(47, max(0, s.Clock+d.below(12)-1))
	r := want(d.below(len(s.Tree)+d.below(2)), from, from+1+d.below(api.End-from), 1+d.below(4))
	for range 1 + d.below(api.MaxPieces) {
		r.Pieces = append(r.Pieces, api.Piece{Len: 1 + d.below(6), N: 1 + d.below(6)})
	}
	return r
}

// left: the room of a queue, time by time, as runs.
func left(s api.State, q int) []api.Run {
	var f []api.Run
	for at := range api.End {
		least := api.MaxNum
		for p := q; p >= 0; p = s.Tree[p].Parent {
			least = min(least, said(s.Tree[p].Cap, at)-taken(s, p, at))
		}
		if len(f) == 0 || f[len(f)-1].N != least {
			f = append(f, api.Run{At: at, N: least})
		}
	}
	return f
}

// said: what runs say at a time.
func said(f []api.Run, at int) int {
	n := 0
	for _, r := range f {
		if r.At <= at {
			n = r.N
		}
	}
	return n
}

// taken: what is taken of a queue at a time.
func taken(s api.State, q, at int) int {
	n := 0
	for _, b := range s.Books {
		p := b.Req.Queue
		for p > q {
			p = s.Tree[p].Parent
		}
		for _, x := range b.Bites {
			if piece := b.Req.Pieces[x.Piece]; p == q && x.At <= at && at < x.At+piece.Len {
				n += piece.N
			}
		}
	}
	return n
}

// over: when the last bite of a book is over.
func over(b api.Book) int {
	last := 0
	for _, x := range b.Bites {
		last = max(last, x.At+b.Req.Pieces[x.Piece].Len)
	}
	return last
}

// submitPlainly: the promise once more, of a request that has no error but for ErrNone.
func submitPlainly(s api.State, r api.Request) (api.State, int, api.Errno) {
	switch {
	case r.Queue >= len(s.Tree):
		return api.State{}, 0, api.ErrNone
	case r.From < s.Clock:
		return api.State{}, 0, api.ErrLate
	case len(s.Books) == api.MaxBooks:
		return api.State{}, 0, api.ErrMany
	}
	bites, found, _ := place.Find(left(s, r.Queue), r)
	if !found {
		return api.State{}, 0, api.ErrFull
	}
	out := s
	out.Books = append(slices.Clone(s.Books), api.Book{Id: s.Next, Req: r, Bites: bites})
	out.Next++
	return out, s.Next, api.OK
}

// cancelPlainly, and tickPlainly (of a time that is not below 0).
func cancelPlainly(s api.State, id int) (api.State, api.Errno) {
	out := s
	out.Books = slices.DeleteFunc(slices.Clone(s.Books), func(b api.Book) bool { return b.Id == id })
	if len(out.Books) == len(s.Books) {
		return api.State{}, api.ErrNone
	}
	return out, api.OK
}

func tickPlainly(s api.State, t int) (api.State, int, api.Errno) {
	if t > api.End {
		return api.State{}, 0, api.ErrRange
	}
	if t < s.Clock {
		return api.State{}, 0, api.ErrLate
	}
	out := s
	out.Clock = t
	out.Books = slices.DeleteFunc(slices.Clone(s.Books), func(b api.Book) bool { return over(b) <= t })
	return out, len(s.Books) - len(out.Books), api.OK
}

// TestHDrawn: long rows of acts, against the promises' own words; what comes is right each time.
func TestHDrawn(t *testing.T) {
	d := drawn(8)
	count := map[api.Errno]int{}
	gone := 0
	for range 150 {
		s, _ := plan.Begin(d.queues())
		for range 60 {
			var got, must api.State
			var n, wantN int
			var e, wantE api.Errno
			switch d.below(14) {
			case 0:
				id := d.below(2 + s.Next)
				got, e = book.Cancel(s, id)
				must, wantE = cancelPlainly(s, id)
			case 1:
				at := max(0, s.Clock+d.below(5)-1)
				got, n, e = book.Tick(s, at)
				must, wantN, wantE = tickPlainly(s, at)
				gone += n
			default:
				r := d.wish(s)
				got, n, e = book.Submit(s, r)
				must, wantN, wantE = submitPlainly(s, r)
			}
			if e != wantE || n != wantN || !same(got, must) {
				t.Fatalf("%v: %v %d %d, not %v %d %d", s, got, n, e, must, wantN, wantE)
			}
			count[e]++
			if e != api.OK {
				continue
			}
			if e := plan.Check(got); e != api.OK {
				t.Fatalf("%v: what comes is not right: %v %d", s, got, e)
			}
			s = got
		}
	}
	for _, e := range []api.Errno{api.OK, api.ErrNone, api.ErrLate, api.ErrMany, api.ErrFull} {
		if count[e] < 50 {
			t.Errorf("error %d was drawn %d times", e, count[e])
		}
	}
	if gone < 50 {
		t.Errorf("%d books were over", gone)
	}
}

// TestP1: whatever is handed in, no call panics, and with an error there is nothing beside it.
func TestP1(t *testing.T) {
	odd := []int{math.MinInt, -1, 0, 1, 3, api.End, math.MaxInt}
	for _, a := range odd {
		for _, b := range odd {
			for _, c := range odd {
				states := []api.State{
					farm(), {}, {Clock: a, Next: b}, {Clock: a, Tree: field()},
					with(farm(), func(s *api.State) { s.Clock, s.Next, s.Books[0].Id = a, b, c }),
					with(farm(), func(s *api.State) { s.Books[0].Bites[0], s.Books[1].Req.From = api.Bite{Piece: a, At: b}, c }),
					with(farm(), func(s *api.State) { s.Tree[1].Parent, s.Tree[2].Cap = a, rs(0, b, c, a) }),
				}
				for _, s := range states {
					for _, r := range []api.Request{want(a, b, c, api.All, 1, 1), want(3, 5, 48, a, b, c), want(0, a, b, api.Tight, c, 1, 2, 2), {}} {
						if x, n, e := book.Submit(s, r); e != api.OK && (n != 0 || !nothing(x)) {
							t.Fatalf("Submit: %v %v: %v %d beside %d", s, r, x, n, e)
						}
					}
					if x, e := book.Cancel(s, a); e != api.OK && !nothing(x) {
						t.Fatalf("Cancel: %v: %v beside %d", s, x, e)
					}
					if x, n, e := book.Tick(s, a); e != api.OK && (n != 0 || !nothing(x)) {
						t.Fatalf("Tick: %v: %v %d beside %d", s, x, n, e)
					}
				}
			}
		}
	}
}

// roomy: the same list, with spare room behind it that is as mark says.
func roomy[T any](l []T, mark T) []T {
	x := append(make([]T, 0, len(l)+5), l...)
	for i := len(l); i < cap(x); i++ {
		x[:cap(x)][i] = mark
	}
	return x
}

// spread: a list, up to its capacity.
func spread[T any](l []T) []T { return l[:cap(l)] }

// handed: a state and a request with spare room behind each list.
func handed() (api.State, api.Request) {
	s, r := farm(), small()
	s.Tree = roomy(s.Tree, api.Queue{Name: "mark", Parent: 7})
	for i := range s.Tree {
		s.Tree[i].Cap = roomy(s.Tree[i].Cap, api.Run{At: 7, N: 7})
	}
	s.Books = roomy(s.Books, api.Book{Id: 5})
	for i := range s.Books {
		s.Books[i].Req.Pieces = roomy(s.Books[i].Req.Pieces, api.Piece{Len: 7, N: 7})
		s.Books[i].Bites = roomy(s.Books[i].Bites, api.Bite{Piece: 7, At: 7})
	}
	r.Pieces = roomy(r.Pieces, api.Piece{Len: 7, N: 7})
	return s, r
}

// whole: all lists of a state, spare room and all.
func whole(s api.State) (out []any) {
	out = append(out, s.Clock, s.Next, slices.Clone(spread(s.Tree)), slices.Clone(spread(s.Books)))
	for _, q := range s.Tree {
		out = append(out, slices.Clone(spread(q.Cap)))
	}
	for _, b := range s.Books {
		out = append(out, slices.Clone(spread(b.Req.Pieces)), slices.Clone(spread(b.Bites)))
	}
	return out
}

// spoil writes over all that a state has, spare room and all: list by list.
func spoil(s api.State) {
	for _, q := range s.Tree {
		for i := range spread(q.Cap) {
			spread(q.Cap)[i] = api.Run{At: -9, N: -9}
		}
	}
	for _, b := range s.Books {
		for i := range spread(b.Bites) {
			spread(b.Bites)[i] = api.Bite{Piece: -9, At: -9}
		}
		for i := range spread(b.Req.Pieces) {
			spread(b.Req.Pieces)[i] = api.Piece{Len: -9, N: -9}
		}
	}
	clear(spread(s.Tree))
	clear(spread(s.Books))
}

// acts: each call, of a state and a request that are right for it.
func acts() map[string]func(s api.State, r api.Request) api.State {
	return map[string]func(s api.State, r api.Request) api.State{
		"Submit": func(s api.State, r api.Request) api.State { x, _, _ := book.Submit(s, r); return x },
		"Cancel": func(s api.State, r api.Request) api.State { x, _ := book.Cancel(s, 1); return x },
		"Tick":   func(s api.State, r api.Request) api.State { x, _, _ := book.Tick(s, 15); return x },
		"Tick 5": func(s api.State, r api.Request) api.State { x, _, _ := book.Tick(s, 5); return x },
	}
}

// TestP2: what is handed in is only read, and an answer shares nothing with it, nor with another answer.
func TestP2(t *testing.T) {
	for name, act := range acts() {
		s, r := handed()
		got, other := act(s, r), act(s, r)
		s1, r1 := handed()
		if !reflect.DeepEqual(whole(s), whole(s1)) || !slices.Equal(spread(r.Pieces), spread(r1.Pieces)) {
			t.Errorf("%s: what was handed in has changed: %v %v", name, s, r)
		}
		must := act(farm(), small())
		if !same(got, must) || nothing(got) {
			t.Errorf("%s: %v, not %v", name, got, must)
		}
		spoil(s)
		spoil(other)
		for i := range spread(r.Pieces) {
			spread(r.Pieces)[i] = api.Piece{Len: -9, N: -9}
		}
		if !same(got, must) {
			t.Fatalf("%s: the answer has changed: %v, not %v", name, got, must)
		}
		// A list that is written over, behind its end too, leaves the others as they were.
		for i := range got.Books {
			got.Books[i].Bites = append(got.Books[i].Bites, bs(-9, -9, -9, -9)...)[:len(must.Books[i].Bites)]
			got.Books[i].Req.Pieces = append(got.Books[i].Req.Pieces, api.Piece{Len: -9}, api.Piece{Len: -9})[:len(must.Books[i].Req.Pieces)]
		}
		for i := range got.Tree {
			got.Tree[i].Cap = append(got.Tree[i].Cap, rs(-9, -9, -9, -9)...)[:len(must.Tree[i].Cap)]
		}
		if !same(got, must) {
			t.Errorf("%s: lists of the answer share memory: %v, not %v", name, got, must)
		}
	}
}

// TestP3: the same question has the same answer, whatever was asked between.
func TestP3(t *testing.T) {
	all := func() (out []any) {
		for _, x := range submits() {
			s, n, e := book.Submit(x.s, x.r)
			out = append(out, s, n, e)
		}
		for i := range 10 {
			a, e := book.Cancel(farm(), i)
			b, n, f := book.Tick(farm(), 2*i)
			out = append(out, a, e, b, n, f)
		}
		return out
	}
	first := all()
	for _, x := range wrongs() {
		s := with(farm(), x.do)
		book.Submit(s, small())
		book.Cancel(s, 1)
		book.Tick(s, 20)
	}
	if again := all(); !reflect.DeepEqual(first, again) {
		t.Errorf("first %v, then %v", first, again)
	}
}

// TestP4: what is far more than it may be has its answer, too.
func TestP4(t *testing.T) {
	many := with(farm(), func(s *api.State) { s.Books = make([]api.Book, 1<<18) })
	if s, n, e := book.Submit(many, small()); e != api.ErrMany || n != 0 || !nothing(s) {
		t.Errorf("Submit: %d %d", n, e)
	}
	if s, e := book.Cancel(many, 0); e != api.ErrMany || !nothing(s) {
		t.Errorf("Cancel: %d", e)
	}
	if s, n, e := book.Tick(many, 9); e != api.ErrMany || n != 0 || !nothing(s) {
		t.Errorf("Tick: %d %d", n, e)
	}
	r := small()
	r.Pieces = make([]api.Piece, 1<<18)
	if s, n, e := book.Submit(farm(), r); e != api.ErrMany || n != 0 || !nothing(s) {
		t.Errorf("many pieces: %d %d", n, e)
	}
}
