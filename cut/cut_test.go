package cut_test

import (
	"math"
	"reflect"
	"slices"
	"testing"

	"acreage/api"
	"acreage/book"
	"acreage/cut"
	"acreage/place"
	"acreage/plan"
)

// rs: runs from At and N in turn.
func rs(n ...int) []api.Run {
	f := []api.Run{}
	for i := 0; i+1 < len(n); i += 2 {
		f = append(f, api.Run{At: n[i], N: n[i+1]})
	}
	return f
}

// bs: bites from Piece and At in turn.
func bs(n ...int) []api.Bite {
	b := []api.Bite{}
	for i := 0; i+1 < len(n); i += 2 {
		b = append(b, api.Bite{Piece: n[i], At: n[i+1]})
	}
	return b
}

// want: a request; its pieces are Len and N in turn.
func want(q, from, until, kind int, n ...int) api.Request {
	r := api.Request{Queue: q, From: from, Until: until, Kind: kind}
	for i := 0; i+1 < len(n); i += 2 {
		r.Pieces = append(r.Pieces, api.Piece{Len: n[i], N: n[i+1]})
	}
	return r
}

// field: the queues of the document's examples.
func field() []api.Queue {
	return []api.Queue{
		{Name: "all", Parent: -1, Cap: rs(0, 10)},
		{Name: "north", Parent: 0, Cap: rs(0, 8, 20, 4)},
		{Name: "south", Parent: 0, Cap: rs(0, 6)},
		{Name: "barn", Parent: 1, Cap: rs(0, 8)},
	}
}

// farm: a state of two books, at 5: 3 of the barn from 8 to 12, and 6 from 13 to 18; 4 of the south from 9 to 15.
func farm() api.State {
	return api.State{Clock: 5, Next: 6, Tree: field(), Books: []api.Book{
		{Id: 1, Req: want(3, 2, 30, api.Order, 4, 3, 5, 6), Bites: bs(0, 8, 1, 13)},
		{Id: 4, Req: want(2, 3, 48, api.Any, 6, 4), Bites: bs(0, 9)},
	}}
}

// one: a book of one bite.
func one(id, q, from, until, at, size, n int) api.Book {
	return api.Book{Id: id, Req: want(q, from, until, api.Any, size, n), Bites: bs(0, at)}
}

// lone: a state of one queue, that has so much, at that time.
func lone(clock, has int, b ...api.Book) api.State {
	return api.State{Clock: clock, Next: 20, Tree: []api.Queue{{Name: "all", Parent: -1, Cap: rs(0, has)}}, Books: b}
}

func with(s api.State, do func(s *api.State)) api.State {
	do(&s)
	return s
}

// nothing: is the state its zero value?
func nothing(s api.State) bool {
	return s.Clock == 0 && s.Next == 0 && len(s.Tree) == 0 && len(s.Books) == 0
}

// same: do both states say the same? (An empty list may be nil or not.)
func same(a, b api.State) bool {
	if a.Clock != b.Clock || a.Next != b.Next || !reflect.DeepEqual(a.Tree, b.Tree) || len(a.Books) != len(b.Books) {
		return false
	}
	for i := range a.Books {
		if !reflect.DeepEqual(a.Books[i], b.Books[i]) {
			return false
		}
	}
	return true
}

// turn: what makes a state wrong, and which error it has then.
type turn struct {
	name string
	do   func(s *api.State)
	e    api.Errno
}

// wrongs: one of each of plan.Check's errors but ErrSum, and some edges; with most of them too much is taken, too.
func wrongs() []turn {
	return []turn{
		{"no queues", func(s *api.State) { s.Tree = nil }, api.ErrMany},
		{"no name", func(s *api.State) { s.Tree[1].Name = "" }, api.ErrName},
		{"the same name", func(s *api.State) { s.Tree[3].Name = "all" }, api.ErrThere},
		{"its own Parent", func(s *api.State) { s.Tree[3].Parent = 3 }, api.ErrRange},
		{"no Cap", func(s *api.State) { s.Tree[0].Cap = nil }, api.ErrForm},
		{"too many books", func(s *api.State) { s.Books = make([]api.Book, api.MaxBooks+1) }, api.ErrMany},
		{"an empty book", func(s *api.State) { s.Tree[0].Cap[0].N, s.Books[1] = 0, api.Book{} }, api.ErrKind},
		{"no such queue", func(s *api.State) { s.Tree[0].Cap[0].N, s.Books[1].Req.Queue = 0, 4 }, api.ErrNone},
		{"a piece", func(s *api.State) { s.Tree[0].Cap[0].N, s.Books[0].Req.Pieces[0].N = 0, 0 }, api.ErrRange},
		{"no bites", func(s *api.State) { s.Tree[0].Cap[0].N, s.Books[0].Bites = 0, nil }, api.ErrForm},
		{"Clock below 0", func(s *api.State) { s.Tree[0].Cap[0].N, s.Clock = 0, -1 }, api.ErrRange},
		{"Clock above End", func(s *api.State) { s.Tree[0].Cap[0].N, s.Clock = 0, api.End+1 }, api.ErrRange},
		{"Next above MaxIds", func(s *api.State) { s.Tree[0].Cap[0].N, s.Next = 0, api.MaxIds+1 }, api.ErrRange},
		{"the same Id twice", func(s *api.State) { s.Tree[0].Cap[0].N, s.Books[1].Id = 0, 1 }, api.ErrForm},
		{"Next is the last Id", func(s *api.State) { s.Tree[0].Cap[0].N, s.Next = 0, 4 }, api.ErrForm},
		{"over at Clock", func(s *api.State) { s.Clock = 15 }, api.ErrLate},
		{"over at Clock, and too much", func(s *api.State) { s.Tree[0].Cap[0].N, s.Clock = 0, 15 }, api.ErrLate},
	}
}

// TestI1First: the soonest time, and of that the first queue.
func TestI1First(t *testing.T) {
	caps := func(clock int, n ...[]api.Run) api.State {
		s := farm()
		s.Clock = clock
		for q, f := range n {
			if f != nil {
				s.Tree[q].Cap = f
			}
		}
		return s
	}
	for _, x := range []struct {
		name string
		s    api.State
		t, q int
		is   bool
	}{
		{"all fits", farm(), 0, 0, false},
		{"no books", with(farm(), func(s *api.State) { s.Books, s.Tree[0].Cap = nil, rs(0, 0) }), 0, 0, false},
		{"no books, at End", api.State{Clock: api.End, Tree: field()}, 0, 0, false},
		{"just as much as there is", caps(5, rs(0, 10), rs(0, 6), rs(0, 4), rs(0, 6)), 0, 0, false},
		{"9 of all", caps(5, rs(0, 9)), 13, 0, true},
		{"6 of all", caps(5, rs(0, 6)), 9, 0, true},
		{"2 of all", caps(5, rs(0, 2)), 8, 0, true},
		{"5 of the barn", caps(5, nil, nil, nil, rs(0, 5)), 13, 3, true},
		{"5 of the north", caps(5, nil, rs(0, 5)), 13, 1, true},
		{"5 of both: the first one", caps(5, nil, rs(0, 5), nil, rs(0, 5)), 13, 1, true},
		{"the sooner time, of the later queue", caps(5, nil, nil, rs(0, 3), rs(0, 2)), 8, 3, true},
		{"the sooner time, of the sooner queue", caps(5, nil, nil, rs(0, 3), rs(0, 5)), 9, 2, true},
		{"no room at all", caps(5, rs(0, 0), rs(0, 0), rs(0, 0), rs(0, 0)), 8, 0, true},
		{"before Clock alone", caps(14, rs(0, 0, 14, 10)), 0, 0, false},
		{"before Clock, and at it", caps(14, rs(0, 0)), 14, 0, true},
		{"at Clock, of another queue", caps(14, rs(0, 0, 14, 10), nil, rs(0, 3)), 14, 2, true},
		{"at one time", caps(5, nil, nil, nil, rs(0, 8, 17, 5, 18, 8)), 17, 3, true},
		{"when it is over", caps(5, nil, nil, nil, rs(0, 8, 18, 0)), 0, 0, false},
		{"the time ahead of it", caps(5, nil, nil, nil, rs(0, 0, 8, 8)), 0, 0, false},
		{"at the last time", with(lone(0, 3, one(2, 0, 0, 48, 40, 8, 3)), func(s *api.State) { s.Tree[0].Cap = rs(0, 3, 47, 2) }), 47, 0, true},
		{"at the last time, which is Clock", with(lone(47, 3, one(2, 0, 0, 48, 40, 8, 3)), func(s *api.State) { s.Tree[0].Cap = rs(0, 2) }), 47, 0, true},
	} {
		if at, q, is, e := cut.First(x.s); at != x.t || q != x.q || is != x.is || e != api.OK {
			t.Errorf("%s: %d %d %v %d, not %d %d %v", x.name, at, q, is, e, x.t, x.q, x.is)
		}
	}
}

// TestI1Errors: plan.Check's; ErrSum is none.
func TestI1Errors(t *testing.T) {
	for _, x := range wrongs() {
		if at, q, is, e := cut.First(with(farm(), x.do)); at != 0 || q != 0 || is || e != x.e {
			t.Errorf("%s: %d %d %v %d, not %d", x.name, at, q, is, e, x.e)
		}
	}
}

// changed: what Change must answer.
type changed struct {
	name           string
	s              api.State
	q              int
	room           []api.Run
	bites          map[int][]api.Bite // of those that are there then, by Id
	moved, dropped []int
}

func changes() []changed {
	first, second := bs(0, 8, 1, 13), bs(0, 9)
	at := func(n int) []api.Bite { return bs(0, n) }
	at14 := with(farm(), func(s *api.State) { s.Clock = 14 })
	at10 := with(farm(), func(s *api.State) { s.Clock = 10 })
	at9 := with(farm(), func(s *api.State) { s.Clock = 9 })
	return []changed{
		{"3 in the north, and 6 from 22 on", farm(), 1, rs(0, 3, 22, 6), map[int][]api.Bite{1: bs(0, 5, 1, 22), 4: second}, []int{1}, nil},
		{"9 in all", farm(), 0, rs(0, 9), map[int][]api.Bite{1: first, 4: at(5)}, []int{4}, nil},
		{"10 in all, as it was", farm(), 0, rs(0, 10), map[int][]api.Bite{1: first, 4: second}, nil, nil},
		{"more", farm(), 0, rs(0, 50), map[int][]api.Bite{1: first, 4: second}, nil, nil},
		{"just enough", farm(), 3, rs(0, 0, 8, 3, 12, 0, 13, 6, 18, 0), map[int][]api.Bite{1: first, 4: second}, nil, nil},
		{"nothing in all", farm(), 0, rs(0, 0), nil, nil, []int{1, 4}},
		{"nothing in the south", farm(), 2, rs(0, 0), map[int][]api.Bite{1: first}, nil, []int{4}},
		{"nothing in the barn", farm(), 3, rs(0, 0), map[int][]api.Bite{4: second}, nil, []int{1}},
		{"less before Clock alone", at14, 0, rs(0, 0, 14, 10), map[int][]api.Bite{1: first, 4: second}, nil, nil},
		{"it has begun", at10, 0, rs(0, 9), map[int][]api.Bite{1: first}, nil, []int{4}},
		{"it begins at Clock", at9, 0, rs(0, 9), map[int][]api.Bite{1: first, 4: at(18)}, []int{4}, nil},
		{"one of its bites has begun", at9, 3, rs(0, 5, 20, 50), map[int][]api.Bite{4: second}, nil, []int{1}},
		{"no place by Until", lone(0, 5, one(3, 0, 0, 10, 2, 4, 4)), 0, rs(0, 3, 7, 5), nil, nil, []int{3}},
		{"a place just by Until", lone(0, 5, one(3, 0, 0, 10, 2, 4, 4)), 0, rs(0, 3, 6, 5), map[int][]api.Bite{3: at(6)}, []int{3}, nil},
		{"sooner, but not ahead of From", lone(0, 5, one(3, 0, 4, 40, 20, 4, 4)), 0, rs(0, 5, 20, 3), map[int][]api.Bite{3: at(4)}, []int{3}, nil},
		{"sooner, but not ahead of Clock", lone(6, 5, one(3, 0, 4, 40, 20, 4, 4)), 0, rs(0, 5, 20, 3), map[int][]api.Bite{3: at(6)}, []int{3}, nil},
		{"the last one gives way", lone(0, 6, one(1, 0, 0, 9, 2, 3, 2), one(2, 0, 0, 9, 2, 3, 2), one(5, 0, 0, 9, 2, 3, 2)), 0, rs(0, 4, 6, 0), map[int][]api.Bite{1: at(2), 2: at(2)}, nil, []int{5}},
		{"the last one that takes something then", lone(0, 6, one(1, 0, 0, 9, 2, 3, 2), one(2, 0, 0, 9, 2, 3, 2), one(5, 0, 0, 9, 5, 3, 6)), 0, rs(0, 0, 2, 3, 3, 0, 5, 6), map[int][]api.Bite{5: at(5)}, nil, []int{1, 2}},
		{"from the least Id on", lone(0, 6, one(1, 0, 0, 20, 2, 3, 4), one(2, 0, 0, 20, 5, 3, 4)), 0, rs(0, 3, 9, 6), map[int][]api.Bite{1: at(9), 2: at(12)}, []int{1, 2}, nil},
		{"there is no place for the first, one for the second", lone(0, 6, one(1, 0, 0, 8, 2, 3, 4), one(2, 0, 0, 20, 5, 3, 4)), 0, rs(0, 3, 9, 6), map[int][]api.Bite{2: at(9)}, []int{2}, []int{1}},
		{"moved between those that stay", lone(0, 6, one(1, 0, 0, 48, 20, 3, 6), one(2, 0, 0, 48, 2, 3, 4), one(3, 0, 0, 48, 30, 3, 6)), 0, rs(0, 3, 9, 6), map[int][]api.Bite{1: at(20), 2: at(9), 3: at(30)}, []int{2}, nil},
		{"moved to where it was", lone(0, 4, one(1, 0, 10, 20, 10, 10, 2), one(2, 0, 10, 12, 10, 2, 2)), 0, rs(0, 3, 15, 1), map[int][]api.Bite{2: at(10)}, []int{2}, []int{1}},
		{"the greater Id was taken away first", lone(0, 4, one(1, 0, 10, 30, 10, 10, 2), one(2, 0, 10, 12, 10, 2, 2)), 0, rs(0, 3, 15, 1, 20, 2), map[int][]api.Bite{1: at(20), 2: at(10)}, []int{1, 2}, nil},
		{"the greatest Id that may be", with(lone(0, 6, one(api.MaxIds-1, 0, 0, 48, 2, 3, 4)), func(s *api.State) { s.Next = api.MaxIds }), 0, rs(0, 3, 9, 6), map[int][]api.Bite{api.MaxIds - 1: at(9)}, []int{api.MaxIds - 1}, nil},
		{"no books, at End", api.State{Clock: api.End, Tree: field()}, 3, rs(0, 0), nil, nil, nil},
	}
}

// must: the state that there must be, from that ahead of it.
func (x changed) must() api.State {
	s := x.s
	s.Tree = slices.Clone(s.Tree)
	s.Tree[x.q].Cap = x.room
	s.Books = nil
	for _, b := range x.s.Books {
		if l, is := x.bites[b.Id]; is {
			s.Books = append(s.Books, api.Book{Id: b.Id, Req: b.Req, Bites: l})
		}
	}
	return s
}

// TestI2Change: the queue has that Cap, and who gives way is moved or dropped, with its Id and its request.
func TestI2Change(t *testing.T) {
	for _, x := range changes() {
		if e := plan.Check(x.s); e != api.OK {
			t.Fatalf("%s: not right: %d", x.name, e)
		}
		got, moved, dropped, e := cut.Change(x.s, x.q, x.room)
		if e != api.OK || !slices.Equal(moved, x.moved) || !slices.Equal(dropped, x.dropped) || !same(got, x.must()) {
			t.Errorf("%s: %v %v %v %d, not %v %v %v", x.name, got, moved, dropped, e, x.must(), x.moved, x.dropped)
		}
		if e := plan.Check(got); e != api.OK {
			t.Errorf("%s: what comes is not right: %d", x.name, e)
		}
	}
}

// TestI2Kinds: each kind is moved as its kind asks for it.
func TestI2Kinds(t *testing.T) {
	for kind, want := range map[int][]api.Bite{api.All: bs(0, 16, 1, 10), api.Order: bs(0, 16, 1, 20), api.Tight: bs(0, 20, 1, 23)} {
		r := want2(kind)
		s := lone(0, 9, api.Book{Id: 7, Req: r, Bites: bs(0, 1, 1, 4)})
		got, moved, dropped, e := cut.Change(s, 0, rs(0, 1, 10, 3, 13, 0, 16, 5, 19, 0, 20, 9))
		if e != api.OK || !slices.Equal(moved, []int{7}) || len(dropped) != 0 || len(got.Books) != 1 || !slices.Equal(got.Books[0].Bites, want) {
			t.Errorf("kind %d: %v %v %v %d, not %v", kind, got.Books, moved, dropped, e, want)
		}
	}
}

// want2: 5 for 3 times, and 3 for 2 times.
func want2(kind int) api.Request { return want(0, 1, 40, kind, 3, 5, 2, 3) }

// TestI2Errors: the state's, ErrNone, ErrForm, in that order.
func TestI2Errors(t *testing.T) {
	check := func(name string, s api.State, q int, room []api.Run, want api.Errno) {
		t.Helper()
		if got, up, down, e := cut.Change(s, q, room); e != want || len(up) != 0 || len(down) != 0 || !nothing(got) {
			t.Errorf("%s, queue %d: %v %v %v %d, not %d", name, q, got, up, down, e, want)
		}
	}
	none := []int{math.MinInt, -1, 4, 5, math.MaxInt}
	noRuns := [][]api.Run{nil, {}, rs(1, 5), rs(0, 5, 3, 5), rs(0, 5, 48, 6), rs(0, 5, 9, 6, 9, 7), rs(0, 5, 9, 6, 8, 7), rs(0, -1), rs(0, 51), rs(0, 5, 7, -1), rs(0, 5, 47, 51), rs(0, math.MaxInt), rs(0, 5, math.MinInt, 6)}
	for _, q := range none {
		check("no such queue", farm(), q, rs(0, 5), api.ErrNone)
		check("no such queue, no room", farm(), q, rs(0, 51), api.ErrNone)
	}
	for _, f := range noRuns {
		for q := range 4 {
			check("no room", farm(), q, f, api.ErrForm)
		}
	}
	sum := turn{"9 of all", func(s *api.State) { s.Tree[0].Cap = rs(0, 9) }, api.ErrSum}
	for _, x := range append(wrongs(), sum) {
		for _, q := range append(none, 0, 3) {
			check(x.name, with(farm(), x.do), q, rs(0, 50), x.e)
			check(x.name+", no room", with(farm(), x.do), q, nil, x.e)
		}
	}
	if got, _, _, e := cut.Change(farm(), 1, rs(0, 50, 47, 0)); e != api.OK || !slices.Equal(got.Tree[1].Cap, rs(0, 50, 47, 0)) {
		t.Errorf("the most and the least: %v %d", got, e)
	}
}

// drawn: numbers, the same each time.
type drawn uint64

func (d *drawn) below(n int) int {
	*d = *d*6364136223846793005 + 1442695040888963407
	return int(uint64(*d) >> 33 % uint64(n))
}

// room that is drawn: so much at most.
func (d *drawn) room(most int) []api.Run {
	f := rs(0, d.below(most+1))
	for at := 1; at < api.End; at++ {
		if n := d.below(most + 1); d.below(9) == 0 && n != f[len(f)-1].N {
			f = append(f, api.Run{At: at, N: n})
		}
	}
	return f
}

// state that is drawn: right, with some books, the Clock among them.
func (d *drawn) state() api.State {
	var l []api.Queue
	for i := range 1 + d.below(api.MaxQueues) {
		l = append(l, api.Queue{Name: string(rune('a' + i)), Parent: d.below(i+1) - 1, Cap: d.room(12)})
		l[i].Cap[0].N = 13
	}
	s, _ := plan.Begin(l)
	for range d.below(25) {
		from := s.Clock + d.below(api.End-s.Clock)/2
		r := want(d.below(len(l)), from, from+1+d.below(api.End-from), 1+d.below(4))
		for range 1 + d.below(api.MaxPieces) {
			r.Pieces = append(r.Pieces, api.Piece{Len: 1 + d.below(7), N: 1 + d.below(5)})
		}
		if x, _, e := book.Submit(s, r); e == api.OK {
			s = x
		}
		if d.below(4) == 0 {
			s, _, _ = book.Tick(s, min(30, s.Clock+d.below(3)))
		}
	}
	return s
}

// said: what runs say at a time.
func said(f []api.Run, at int) int {
	n := 0
	for _, r := range f {
		if r.At <= at {
			n = r.N
		}
	}
	return n
}

// stands: does that queue stand in the line of the book's?
func stands(s api.State, b api.Book, q int) bool {
	p := b.Req.Queue
	for p > q {
		p = s.Tree[p].Parent
	}
	return p == q
}

// bitten: what a book takes at a time.
func bitten(b api.Book, at int) int {
	n := 0
	for _, x := range b.Bites {
		if p := b.Req.Pieces[x.Piece]; x.At <= at && at < x.At+p.Len {
			n += p.N
		}
	}
	return n
}

// left: what a queue by itself has left at a time.
func left(s api.State, q, at int) int {
	n := said(s.Tree[q].Cap, at)
	for _, b := range s.Books {
		if stands(s, b, q) {
			n -= bitten(b, at)
		}
	}
	return n
}

// firstPlainly: the promise once more.
func firstPlainly(s api.State) (int, int, bool) {
	for at := s.Clock; at < api.End; at++ {
		for q := range s.Tree {
			if left(s, q, at) < 0 {
				return at, q, true
			}
		}
	}
	return 0, 0, false
}

// lineLeft: the room of a queue, time by time, as runs.
func lineLeft(s api.State, q int) []api.Run {
	var f []api.Run
	for at := range api.End {
		least := api.MaxNum
		for p := q; p >= 0; p = s.Tree[p].Parent {
			least = min(least, left(s, p, at))
		}
		if len(f) == 0 || f[len(f)-1].N != least {
			f = append(f, api.Run{At: at, N: least})
		}
	}
	return f
}

// changePlainly: the promise once more, of a state in which the queue has its new Cap. Who is away is told by Id, so that what stays keeps its order.
func changePlainly(s api.State) (api.State, []int, []int) {
	all := s.Books
	var away [64]bool
	there := func() api.State {
		x := s
		x.Books = nil
		for _, b := range all {
			if !away[b.Id] {
				x.Books = append(x.Books, b)
			}
		}
		return x
	}
	for at, q, is := firstPlainly(there()); is; at, q, is = firstPlainly(there()) {
		id := -1
		for _, b := range there().Books {
			if stands(s, b, q) && bitten(b, at) > 0 {
				id = max(id, b.Id)
			}
		}
		away[id] = true
	}
	all = slices.Clone(all)
	gone := away
	var moved, dropped []int
	for i, b := range all {
		if !gone[b.Id] {
			continue
		}
		r := b.Req
		r.From = max(r.From, s.Clock)
		bites, found, _ := place.Find(lineLeft(there(), r.Queue), r)
		for _, x := range b.Bites {
			found = found && x.At >= s.Clock
		}
		if !found {
			dropped = append(dropped, b.Id)
			continue
		}
		all[i].Bites, away[b.Id] = bites, false
		moved = append(moved, b.Id)
	}
	return there(), moved, dropped
}

// TestI2Drawn: Change and First against the promises' own words.
func TestI2Drawn(t *testing.T) {
	d := drawn(9)
	var moves, drops, begun, firsts int
	for range 1500 {
		s := d.state()
		q, f := d.below(len(s.Tree)), d.room(10)
		cutState := s
		cutState.Tree = slices.Clone(s.Tree)
		cutState.Tree[q].Cap = f
		at, over, is, e := cut.First(cutState)
		if wantAt, wantOver, wantIs := firstPlainly(cutState); e != api.OK || at != wantAt || over != wantOver || is != wantIs {
			t.Fatalf("%v: %d %d %v %d, not %d %d %v", cutState, at, over, is, e, wantAt, wantOver, wantIs)
		}
		must, wantMoved, wantDropped := changePlainly(cutState)
		got, moved, dropped, e := cut.Change(s, q, f)
		if e != api.OK || !slices.Equal(moved, wantMoved) || !slices.Equal(dropped, wantDropped) || !same(got, must) {
			t.Fatalf("%v, %d, %v: %v %v %v %d, not %v %v %v", s, q, f, got, moved, dropped, e, must, wantMoved, wantDropped)
		}
		moves, drops = moves+len(moved), drops+len(dropped)
		if is {
			firsts++
		}
		for _, b := range s.Books {
			if slices.Contains(dropped, b.Id) && slices.ContainsFunc(b.Bites, func(x api.Bite) bool { return x.At < s.Clock }) {
				begun++
			}
		}
	}
	if moves < 200 || drops < 200 || begun < 50 || firsts < 200 || firsts > 1450 {
		t.Errorf("drawn too little: %d moved, %d dropped, of them %d begun, %d firsts", moves, drops, begun, firsts)
	}
}

// TestI3: all fits again; nobody gives way who took nothing when too much was taken; who does not give way stays as he was, and who is moved keeps his Id and his request.
func TestI3(t *testing.T) {
	d := drawn(10)
	for range 1500 {
		s := d.state()
		q, f := d.below(len(s.Tree)), d.room(10)
		got, moved, dropped, e := cut.Change(s, q, f)
		if e != api.OK {
			t.Fatalf("%v: %d", s, e)
		}
		if e := plan.Check(got); e != api.OK {
			t.Fatalf("%v, %d, %v: what comes is not right: %v %d", s, q, f, got, e)
		}
		if _, _, is, e := cut.First(got); is || e != api.OK {
			t.Fatalf("%v, %d, %v: it does not fit: %v %d", s, q, f, got, e)
		}
		cutState := s
		cutState.Tree = slices.Clone(s.Tree)
		cutState.Tree[q].Cap = f
		for _, b := range s.Books {
			i := slices.IndexFunc(got.Books, func(x api.Book) bool { return x.Id == b.Id })
			up, down := slices.Contains(moved, b.Id), slices.Contains(dropped, b.Id)
			switch {
			case up && down, down != (i < 0):
				t.Fatalf("%v: Id %d: %v %v %v", s, b.Id, got, moved, dropped)
			case i >= 0 && !reflect.DeepEqual(got.Books[i].Req, b.Req):
				t.Fatalf("%v: Id %d has another request: %v", s, b.Id, got)
			case !up && !down && !slices.Equal(got.Books[i].Bites, b.Bites):
				t.Fatalf("%v: Id %d stands elsewhere: %v", s, b.Id, got)
			case (up || down) && !guilty(cutState, b):
				t.Fatalf("%v, %d, %v: Id %d gave way", s, q, f, b.Id)
			}
		}
	}
}

// guilty: did the book take something, when too much was taken of a queue of its line?
func guilty(s api.State, b api.Book) bool {
	for at := s.Clock; at < api.End; at++ {
		for q := range s.Tree {
			if bitten(b, at) > 0 && stands(s, b, q) && left(s, q, at) < 0 {
				return true
			}
		}
	}
	return false
}

// TestP1: whatever is handed in, no call panics, and with an error there is nothing beside it.
func TestP1(t *testing.T) {
	odd := []int{math.MinInt, -1, 0, 1, 3, api.End, math.MaxInt}
	for _, a := range odd {
		for _, b := range odd {
			for _, c := range odd {
				states := []api.State{
					farm(), {}, {Clock: a, Next: b}, {Clock: a, Tree: field()},
					with(farm(), func(s *api.State) { s.Clock, s.Next, s.Books[0].Id = a, b, c }),
					with(farm(), func(s *api.State) { s.Books[0].Bites[0], s.Books[1].Req.From = api.Bite{Piece: a, At: b}, c }),
					with(farm(), func(s *api.State) { s.Tree[1].Parent, s.Tree[2].Cap = a, rs(0, b, c, a) }),
				}
				for _, s := range states {
					for _, f := range [][]api.Run{nil, rs(0, a), rs(0, 5, b, c), rs(a, b), rs(0, 0)} {
						if x, up, down, e := cut.Change(s, c, f); e != api.OK && (len(up) != 0 || len(down) != 0 || !nothing(x)) {
							t.Fatalf("Change: %v %v: %v %v %v beside %d", s, f, x, up, down, e)
						}
					}
					if at, q, is, e := cut.First(s); (e != api.OK || !is) && (at != 0 || q != 0 || is) {
						t.Fatalf("First: %v: %d %d %v beside %d", s, at, q, is, e)
					}
				}
			}
		}
	}
}

// roomy: the same list, with spare room behind it that is as mark says.
func roomy[T any](l []T, mark T) []T {
	x := append(make([]T, 0, len(l)+5), l...)
	for i := len(l); i < cap(x); i++ {
		x[:cap(x)][i] = mark
	}
	return x
}

// spread: a list, up to its capacity.
func spread[T any](l []T) []T { return l[:cap(l)] }

// handed: a state and room with spare room behind each list.
func handed(x changed) (api.State, []api.Run) {
	s := x.s
	s.Tree = roomy(s.Tree, api.Queue{Name: "mark", Parent: 7})
	for i := range s.Tree {
		s.Tree[i].Cap = roomy(s.Tree[i].Cap, api.Run{At: 7, N: 7})
	}
	s.Books = roomy(s.Books, api.Book{Id: 5})
	for i := range s.Books {
		s.Books[i].Req.Pieces = roomy(s.Books[i].Req.Pieces, api.Piece{Len: 7, N: 7})
		s.Books[i].Bites = roomy(s.Books[i].Bites, api.Bite{Piece: 7, At: 7})
	}
	return s, roomy(x.room, api.Run{At: 7, N: 7})
}

// whole: all lists of a state, spare room and all.
func whole(s api.State) (out []any) {
	out = append(out, s.Clock, s.Next, slices.Clone(spread(s.Tree)), slices.Clone(spread(s.Books)))
	for _, q := range s.Tree {
		out = append(out, slices.Clone(spread(q.Cap)))
	}
	for _, b := range s.Books {
		out = append(out, slices.Clone(spread(b.Req.Pieces)), slices.Clone(spread(b.Bites)))
	}
	return out
}

// spoil writes over all that a state has, spare room and all: list by list.
func spoil(s api.State) {
	for _, q := range s.Tree {
		for i := range spread(q.Cap) {
			spread(q.Cap)[i] = api.Run{At: -9, N: -9}
		}
	}
	for _, b := range s.Books {
		for i := range spread(b.Bites) {
			spread(b.Bites)[i] = api.Bite{Piece: -9, At: -9}
		}
		for i := range spread(b.Req.Pieces) {
			spread(b.Req.Pieces)[i] = api.Piece{Len: -9, N: -9}
		}
	}
	clear(spread(s.Tree))
	clear(spread(s.Books))
}

// TestP2: what is handed in is only read, and an answer shares nothing with it, nor with another answer.
func TestP2(t *testing.T) {
	for _, x := range changes() {
		s, f := handed(x)
		got, up, down, _ := cut.Change(s, x.q, f)
		other, otherUp, otherDown, _ := cut.Change(s, x.q, f)
		cut.First(s)
		s1, f1 := handed(x)
		if !reflect.DeepEqual(whole(s), whole(s1)) || !slices.Equal(spread(f), spread(f1)) {
			t.Errorf("%s: what was handed in has changed: %v %v", x.name, s, f)
		}
		must := x.must()
		spoil(s)
		spoil(other)
		clear(spread(f))
		clear(spread(otherUp))
		clear(spread(otherDown))
		if !same(got, must) || !slices.Equal(up, x.moved) || !slices.Equal(down, x.dropped) {
			t.Fatalf("%s: the answer has changed: %v %v %v", x.name, got, up, down)
		}
		apart(t, x.name, got, must)
	}
}

// apart: a list that is written behind its end leaves the others as they were.
func apart(t *testing.T, name string, got, must api.State) {
	t.Helper()
	for i := range got.Books {
		got.Books[i].Bites = append(got.Books[i].Bites, bs(-9, -9, -9, -9)...)[:len(must.Books[i].Bites)]
		got.Books[i].Req.Pieces = append(got.Books[i].Req.Pieces, api.Piece{Len: -9}, api.Piece{Len: -9})[:len(must.Books[i].Req.Pieces)]
	}
	for i := range got.Tree {
		got.Tree[i].Cap = append(got.Tree[i].Cap, rs(-9, -9, -9, -9)...)[:len(must.Tree[i].Cap)]
	}
	if !same(got, must) {
		t.Errorf("%s: lists of the answer share memory: %v, not %v", name, got, must)
	}
}

// TestP3: the same question has the same answer, whatever was asked between.
func TestP3(t *testing.T) {
	all := func() (out []any) {
		for _, x := range changes() {
			s, up, down, e := cut.Change(x.s, x.q, x.room)
			at, q, is, f := cut.First(x.s)
			out = append(out, s, up, down, e, at, q, is, f)
		}
		return out
	}
	first := all()
	for _, x := range wrongs() {
		s := with(farm(), x.do)
		cut.Change(s, 0, rs(0, 3))
		cut.First(s)
	}
	if again := all(); !reflect.DeepEqual(first, again) {
		t.Errorf("first %v, then %v", first, again)
	}
}

// TestP4: what is far more than it may be has its answer, too.
func TestP4(t *testing.T) {
	many := with(farm(), func(s *api.State) { s.Books = make([]api.Book, 1<<18) })
	if s, up, down, e := cut.Change(many, 0, rs(0, 5)); e != api.ErrMany || len(up) != 0 || len(down) != 0 || !nothing(s) {
		t.Errorf("Change: %d", e)
	}
	if at, q, is, e := cut.First(many); at != 0 || q != 0 || is || e != api.ErrMany {
		t.Errorf("First: %d", e)
	}
	if s, up, down, e := cut.Change(farm(), 0, make([]api.Run, 1<<18)); e != api.ErrForm || len(up) != 0 || len(down) != 0 || !nothing(s) {
		t.Errorf("many runs: %d", e)
	}
}
