package plan_test

import (
	"math"
	"reflect"
	"slices"
	"testing"

	"acreage/api"
	"acreage/load"
	"acreage/plan"
	"acreage/room"
	"acreage/tree"
)

// rs: runs from At and N in turn.
func rs(n ...int) []api.Run {
	f := []api.Run{}
	for i := 0; i+1 < len(n); i += 2 {
		f = append(f, api.Run{At: n[i], N: n[i+1]})
	}
	return f
}

// field: the queues of the document's examples.
func field() []api.Queue {
	return []api.Queue{
		{Name: "all", Parent: -1, Cap: rs(0, 10)},
		{Name: "north", Parent: 0, Cap: rs(0, 8, 20, 4)},
		{Name: "south", Parent: 0, Cap: rs(0, 6)},
		{Name: "barn", Parent: 1, Cap: rs(0, 8)},
	}
}

// plot: a book of the barn: 3 for 4 times, 6 for 5 times behind it, over at 18.
func plot(id int) api.Book {
	r := api.Request{Queue: 3, From: 2, Until: 30, Kind: api.Order, Pieces: []api.Piece{{Len: 4, N: 3}, {Len: 5, N: 6}}}
	return api.Book{Id: id, Req: r, Bites: []api.Bite{{Piece: 0, At: 8}, {Piece: 1, At: 13}}}
}

// one: a book of one bite.
func one(id, q, at, size, n int) api.Book {
	r := api.Request{Queue: q, From: 0, Until: api.End, Kind: api.Any, Pieces: []api.Piece{{Len: size, N: n}}}
	return api.Book{Id: id, Req: r, Bites: []api.Bite{{Piece: 0, At: at}}}
}

// farm: a state of two books, at 5; the second one is over at 15.
func farm() api.State {
	return api.State{Clock: 5, Next: 6, Tree: field(), Books: []api.Book{plot(1), one(4, 2, 9, 6, 4)}}
}

// turn: what makes a state another one, and which error it has then.
type turn struct {
	name string
	do   func(s *api.State)
	e    api.Errno
}

// treeTurns: wrong queues.
func treeTurns() []turn {
	return []turn{
		{"no queues", func(s *api.State) { s.Tree = nil }, api.ErrMany},
		{"six queues", func(s *api.State) { s.Tree = make([]api.Queue, api.MaxQueues+1) }, api.ErrMany},
		{"no name", func(s *api.State) { s.Tree[1].Name = "" }, api.ErrName},
		{"the same name", func(s *api.State) { s.Tree[3].Name = "all" }, api.ErrThere},
		{"its own Parent", func(s *api.State) { s.Tree[3].Parent = 3 }, api.ErrRange},
		{"no Cap", func(s *api.State) { s.Tree[0].Cap = nil }, api.ErrForm},
		{"too great a Cap", func(s *api.State) { s.Tree[0].Cap[0].N = api.MaxCap + 1 }, api.ErrForm},
		{"no name, and all else wrong", func(s *api.State) { s.Tree[1].Name, s.Clock, s.Next, s.Books = "", -1, -1, make([]api.Book, 13) }, api.ErrName},
	}
}

// bookTurns: wrong books.
func bookTurns() []turn {
	return []turn{
		{"too many books", func(s *api.State) { s.Books = make([]api.Book, api.MaxBooks+1) }, api.ErrMany},
		{"an empty book", func(s *api.State) { s.Books[1] = api.Book{} }, api.ErrKind},
		{"a kind", func(s *api.State) { s.Books[0].Req.Kind = 5 }, api.ErrKind},
		{"no pieces", func(s *api.State) { s.Books[0].Req.Pieces = nil }, api.ErrMany},
		{"no such queue", func(s *api.State) { s.Books[1].Req.Queue = 4 }, api.ErrNone},
		{"a piece", func(s *api.State) { s.Books[0].Req.Pieces[0].N = 0 }, api.ErrRange},
		{"no bites", func(s *api.State) { s.Books[0].Bites = nil }, api.ErrForm},
		{"out of order", func(s *api.State) { s.Books[0].Bites[1].At = 11 }, api.ErrForm},
		{"over too late", func(s *api.State) { s.Books[0].Bites[1].At = 26 }, api.ErrForm},
		{"a book ahead of Clock", func(s *api.State) { s.Books[0].Bites, s.Clock = nil, -1 }, api.ErrForm},
		{"a book ahead of Ids", func(s *api.State) { s.Books[0].Req.Queue, s.Books[0].Id = -1, -1 }, api.ErrNone},
	}
}

// clockTurns: wrong Clocks, Nexts and Ids.
func clockTurns() []turn {
	clock := func(n int) func(s *api.State) { return func(s *api.State) { s.Clock = n } }
	next := func(n int) func(s *api.State) { return func(s *api.State) { s.Next = n } }
	ids := func(a, b int) func(s *api.State) {
		return func(s *api.State) { s.Books[0].Id, s.Books[1].Id = a, b }
	}
	return []turn{
		{"Clock below 0", clock(-1), api.ErrRange},
		{"Clock above End", clock(api.End + 1), api.ErrRange},
		{"least Clock", clock(math.MinInt), api.ErrRange},
		{"greatest Clock", clock(math.MaxInt), api.ErrRange},
		{"Next below 0", next(-1), api.ErrRange},
		{"Next above MaxIds", next(api.MaxIds + 1), api.ErrRange},
		{"least Next", next(math.MinInt), api.ErrRange},
		{"greatest Next", next(math.MaxInt), api.ErrRange},
		{"Next 0", next(0), api.ErrForm},
		{"Next is the last Id", next(4), api.ErrForm},
		{"the same Id twice", ids(1, 1), api.ErrForm},
		{"Ids fall", ids(4, 1), api.ErrForm},
		{"an Id below 0", ids(-1, 4), api.ErrForm},
		{"the last Id is Next", ids(1, 6), api.ErrForm},
		{"the first Id is Next", ids(6, 1), api.ErrForm},
		{"least Id", ids(math.MinInt, 4), api.ErrForm},
		{"greatest Id", ids(1, math.MaxInt), api.ErrForm},
		{"greatest Id ahead", ids(math.MaxInt, 4), api.ErrForm},
		{"Clock ahead of Ids", func(s *api.State) { s.Clock, s.Books[0].Id = -1, 4 }, api.ErrRange},
		{"Next ahead of what is over", func(s *api.State) { s.Clock, s.Next = 48, -1 }, api.ErrRange},
		{"Ids ahead of what is over", func(s *api.State) { s.Clock, s.Next = 48, 4 }, api.ErrForm},
		{"Ids ahead of too much", func(s *api.State) { s.Tree[0].Cap, s.Next = rs(0, 0), 4 }, api.ErrForm},
	}
}

// fullTurns: what is over, and what does not fit.
func fullTurns() []turn {
	return []turn{
		{"over at Clock", func(s *api.State) { s.Clock = 15 }, api.ErrLate},
		{"over sooner", func(s *api.State) { s.Clock = 16 }, api.ErrLate},
		{"the first one over, the other not", func(s *api.State) { s.Clock, s.Books[1].Bites[0].At = 18, 20 }, api.ErrLate},
		{"over at End", func(s *api.State) { s.Clock = api.End }, api.ErrLate},
		{"over ahead of too much", func(s *api.State) { s.Clock, s.Tree[0].Cap = 15, rs(0, 0) }, api.ErrLate},
		{"9 of all", func(s *api.State) { s.Tree[0].Cap = rs(0, 9) }, api.ErrSum},
		{"5 of the barn", func(s *api.State) { s.Tree[3].Cap = rs(0, 5) }, api.ErrSum},
		{"5 of the north", func(s *api.State) { s.Tree[1].Cap = rs(0, 5) }, api.ErrSum},
		{"3 of the south", func(s *api.State) { s.Tree[2].Cap = rs(0, 3) }, api.ErrSum},
		{"too much at Clock", func(s *api.State) { s.Clock, s.Tree[0].Cap = 14, rs(0, 10, 14, 9) }, api.ErrSum},
		{"too much at one time", func(s *api.State) { s.Tree[3].Cap = rs(0, 8, 17, 5, 18, 8) }, api.ErrSum},
	}
}

// rightTurns: what is right, the edges among it.
func rightTurns() []turn {
	return []turn{
		{"as it is", func(s *api.State) {}, api.OK},
		{"Clock 0", func(s *api.State) { s.Clock = 0 }, api.OK},
		{"not yet over", func(s *api.State) { s.Clock = 14 }, api.OK},
		{"one bite over, not the book", func(s *api.State) { s.Clock, s.Books[1].Bites[0].At = 17, 20 }, api.OK},
		{"the last Id is Next, less 1", func(s *api.State) { s.Next = 5 }, api.OK},
		{"the greatest Next", func(s *api.State) { s.Next = api.MaxIds }, api.OK},
		{"the greatest Id", func(s *api.State) { s.Next, s.Books[1].Id = api.MaxIds, api.MaxIds-1 }, api.OK},
		{"the first Id 0", func(s *api.State) { s.Books[0].Id, s.Books[1].Id = 0, 1 }, api.OK},
		{"no books", func(s *api.State) { s.Books = nil }, api.OK},
		{"no books, at End", func(s *api.State) { s.Books, s.Clock, s.Next = []api.Book{}, api.End, 0 }, api.OK},
		{"too much before Clock alone", func(s *api.State) { s.Clock, s.Tree[0].Cap = 14, rs(0, 0, 14, 10) }, api.OK},
		{"all of it is taken", func(s *api.State) { s.Tree[2].Cap, s.Tree[3].Cap = rs(0, 4), rs(0, 6) }, api.OK},
		{"a book up to End", func(s *api.State) { s.Clock, s.Books = 47, []api.Book{one(0, 2, 24, 24, 6)} }, api.OK},
		{"as many books as may be", func(s *api.State) {
			s.Books, s.Next = nil, api.MaxBooks
			for id := range api.MaxBooks {
				s.Books = append(s.Books, one(id, 2, 6+3*id, 3, 6))
			}
		}, api.OK},
	}
}

// every turn, with the state that it makes.
func every(do func(x turn, s api.State)) {
	for _, x := range slices.Concat(treeTurns(), bookTurns(), clockTurns(), fullTurns(), rightTurns()) {
		s := farm()
		x.do(&s)
		do(x, s)
	}
}

// TestG1Begin: nothing done yet; with an error nothing at all.
func TestG1Begin(t *testing.T) {
	for _, l := range [][]api.Queue{field(), field()[:1], {{Name: "a", Parent: -1, Cap: rs(0, 0, 47, 50)}}} {
		s, e := plan.Begin(l)
		if e != api.OK || s.Clock != 0 || s.Next != 0 || len(s.Books) != 0 || !reflect.DeepEqual(s.Tree, l) {
			t.Errorf("%v: %v %d", l, s, e)
		}
		if e := plan.Check(s); e != api.OK {
			t.Errorf("%v: what is begun is not right: %d", l, e)
		}
	}
	for _, x := range treeTurns() {
		s := farm()
		x.do(&s)
		b, e := plan.Begin(s.Tree)
		if e != x.e || b.Clock != 0 || b.Next != 0 || len(b.Tree) != 0 || len(b.Books) != 0 {
			t.Errorf("%s: %v %d, not %d", x.name, b, e, x.e)
		}
	}
}

// TestG1Check: each error, and which is told, where several apply.
func TestG1Check(t *testing.T) {
	every(func(x turn, s api.State) {
		if e := plan.Check(s); e != x.e {
			t.Errorf("%s: %d, not %d", x.name, e, x.e)
		}
	})
}

// TestG1Find: where each book stands; Check's errors ahead of ErrNone.
func TestG1Find(t *testing.T) {
	every(func(x turn, s api.State) {
		for _, id := range []int{math.MinInt, -1, 0, 1, 2, 4, 5, 6, 11, 12, api.MaxIds - 1, api.MaxIds, math.MaxInt} {
			want, wantE := 0, x.e
			if x.e == api.OK {
				wantE = api.ErrNone
				for i, b := range s.Books {
					if b.Id == id {
						want, wantE = i, api.OK
					}
				}
			}
			if i, e := plan.Find(s, id); i != want || e != wantE {
				t.Errorf("%s, Id %d: %d %d, not %d %d", x.name, id, i, e, want, wantE)
			}
		}
	})
	for id, want := range map[int]int{1: 0, 4: 1} {
		if i, e := plan.Find(farm(), id); i != want || e != api.OK {
			t.Errorf("Id %d: %d %d", id, i, e)
		}
	}
}

// drawn: numbers, the same each time.
type drawn uint64

func (d *drawn) below(n int) int {
	*d = *d*6364136223846793005 + 1442695040888963407
	return int(uint64(*d) >> 33 % uint64(n))
}

// state that is drawn: right queues and books; the rest may be wrong.
func (d *drawn) state() api.State {
	s := api.State{Clock: d.below(30) - 1, Next: d.below(14) - 1}
	for i := range 1 + d.below(api.MaxQueues) {
		n := 6 + d.below(20)
		s.Tree = append(s.Tree, api.Queue{Name: string(rune('a' + i)), Parent: d.below(i+1) - 1, Cap: rs(0, n, 1+d.below(47), n+1+d.below(5))})
	}
	id := d.below(3) - d.below(2)
	for range d.below(5) {
		size := 1 + d.below(api.MaxLen)
		s.Books = append(s.Books, one(id, d.below(len(s.Tree)), d.below(api.End-size+1), size, 1+d.below(8)))
		id += min(d.below(4), 1)
	}
	return s
}

// taken: how much all books of that queue, and of those under it, take at a time.
func taken(s api.State, q, at int) int {
	under, _ := tree.Under(s.Tree, q)
	n := 0
	for _, b := range s.Books {
		for _, x := range b.Bites {
			p := b.Req.Pieces[x.Piece]
			if under[b.Req.Queue] && x.At <= at && at < x.At+p.Len {
				n += p.N
			}
		}
	}
	return n
}

// has: the room of a queue at a time.
func has(q api.Queue, at int) int {
	n := 0
	for _, r := range q.Cap {
		if r.At <= at {
			n = r.N
		}
	}
	return n
}

// plainly: Check's promise once more, of right queues and books of one bite.
func plainly(s api.State) api.Errno {
	if s.Clock < 0 || s.Clock > api.End || s.Next < 0 || s.Next > api.MaxIds {
		return api.ErrRange
	}
	for i, b := range s.Books {
		if b.Id < 0 || b.Id >= s.Next || i > 0 && b.Id <= s.Books[i-1].Id {
			return api.ErrForm
		}
	}
	for _, b := range s.Books {
		if b.Bites[0].At+b.Req.Pieces[0].Len <= s.Clock {
			return api.ErrLate
		}
	}
	for q := range s.Tree {
		for at := max(0, s.Clock); at < api.End; at++ {
			if taken(s, q, at) > has(s.Tree[q], at) {
				return api.ErrSum
			}
		}
	}
	return api.OK
}

// TestG1Drawn: against the promise's own words; and of a right state no queue has less room than none, from the clock on.
func TestG1Drawn(t *testing.T) {
	d := drawn(2)
	count := map[api.Errno]int{}
	for range 8000 {
		s := d.state()
		if _, e := load.Of(s.Tree, s.Books); e != api.OK {
			t.Fatalf("%v: drawn wrong: %d", s, e)
		}
		e, want := plan.Check(s), plainly(s)
		if e != want {
			t.Fatalf("%v: %d, not %d", s, e, want)
		}
		count[e]++
		for q := range s.Tree {
			f, _ := room.Of(s.Tree, s.Books, q)
			for at := s.Clock; e == api.OK && at < api.End; at++ {
				if n := has(api.Queue{Cap: f}, at); n < 0 {
					t.Fatalf("%v: queue %d has %d at %d", s, q, n, at)
				}
			}
		}
	}
	for _, e := range []api.Errno{api.OK, api.ErrRange, api.ErrForm, api.ErrLate, api.ErrSum} {
		if count[e] < 100 {
			t.Errorf("error %d was drawn %d times", e, count[e])
		}
	}
}

// TestP1: whatever is handed in, no call panics.
func TestP1(t *testing.T) {
	odd := []int{math.MinInt, -1, 0, 1, 3, api.End, math.MaxInt}
	for _, a := range odd {
		for _, b := range odd {
			for _, c := range odd {
				s := farm()
				s.Clock, s.Next, s.Books[0].Id = a, b, c
				u := farm()
				u.Books = []api.Book{one(a, b, c, a, b), plot(c)}
				v := farm()
				v.Books[0].Bites[0], v.Books[1].Req.From = api.Bite{Piece: a, At: b}, c
				w := farm()
				w.Tree[1].Parent, w.Tree[2].Cap = a, rs(0, b, c, a)
				for _, x := range []api.State{s, u, v, w, {}, {Clock: a, Next: b, Books: u.Books}, {Tree: make([]api.Queue, 2)}} {
					plan.Begin(x.Tree)
					if i, e := plan.Find(x, c); e != api.OK && i != 0 {
						t.Fatalf("%v: %d beside %d", x, i, e)
					}
					plan.Check(x)
				}
			}
		}
	}
}

// roomy: the same list, with spare room behind it that is as mark says.
func roomy[T any](l []T, mark T) []T {
	x := append(make([]T, 0, len(l)+5), l...)
	for i := len(l); i < cap(x); i++ {
		x[:cap(x)][i] = mark
	}
	return x
}

// spread: a list, up to its capacity.
func spread[T any](l []T) []T { return l[:cap(l)] }

// handed: a state with spare room behind each list.
func handed() api.State {
	s := farm()
	s.Tree = roomy(s.Tree, api.Queue{Name: "mark", Parent: 7})
	for i := range s.Tree {
		s.Tree[i].Cap = roomy(s.Tree[i].Cap, api.Run{At: 7, N: 7})
	}
	s.Books = roomy(s.Books, api.Book{Id: 5})
	for i := range s.Books {
		s.Books[i].Req.Pieces = roomy(s.Books[i].Req.Pieces, api.Piece{Len: 7, N: 7})
		s.Books[i].Bites = roomy(s.Books[i].Bites, api.Bite{Piece: 7, At: 7})
	}
	return s
}

// same: is that state what handed gives, spare room and all?
func same(s api.State) bool {
	w := handed()
	if !reflect.DeepEqual(s, w) || !reflect.DeepEqual(spread(s.Tree), spread(w.Tree)) || !reflect.DeepEqual(spread(s.Books), spread(w.Books)) {
		return false
	}
	for i := range s.Tree {
		if !slices.Equal(spread(s.Tree[i].Cap), spread(w.Tree[i].Cap)) {
			return false
		}
	}
	for i := range s.Books {
		if !slices.Equal(spread(s.Books[i].Req.Pieces), spread(w.Books[i].Req.Pieces)) || !slices.Equal(spread(s.Books[i].Bites), spread(w.Books[i].Bites)) {
			return false
		}
	}
	return true
}

// TestP2: what is handed in is only read.
func TestP2(t *testing.T) {
	s := handed()
	plan.Begin(s.Tree)
	if e := plan.Check(s); e != api.OK {
		t.Errorf("Check: %d", e)
	}
	for _, id := range []int{1, 4, 5} {
		plan.Find(s, id)
	}
	if !same(s) {
		t.Errorf("what was handed in has changed: %v", s)
	}
}

// TestP2Begin: what is begun shares nothing with what was handed in, nor its lists with one another.
func TestP2Begin(t *testing.T) {
	s := handed()
	begun, _ := plan.Begin(s.Tree)
	for i := range spread(s.Tree) {
		for j := range spread(s.Tree[:cap(s.Tree)][i].Cap) {
			spread(s.Tree[:cap(s.Tree)][i].Cap)[j] = api.Run{At: -1, N: -1}
		}
		spread(s.Tree)[i] = api.Queue{Name: "x"}
	}
	if !reflect.DeepEqual(begun.Tree, field()) {
		t.Errorf("what is begun was changed by way of what was handed in: %v", begun.Tree)
	}
	s = handed()
	for q := range s.Tree {
		begun, _ = plan.Begin(s.Tree)
		for i := range spread(begun.Tree[q].Cap) {
			spread(begun.Tree[q].Cap)[i] = api.Run{At: -1, N: -1}
		}
		begun.Tree[q] = field()[q]
		if !reflect.DeepEqual(begun.Tree, field()) || !same(s) {
			t.Errorf("the Cap of queue %d is shared: %v %v", q, begun.Tree, s.Tree)
		}
	}
	begun, _ = plan.Begin(s.Tree)
	for i := range spread(begun.Tree) {
		spread(begun.Tree)[i] = api.Queue{Name: "x"}
	}
	if !same(s) {
		t.Errorf("the queues are shared: %v", s.Tree)
	}
	// One list in several queues: it comes out as several.
	shared := rs(0, 5, 9, 6)
	begun, _ = plan.Begin([]api.Queue{{Name: "a", Parent: -1, Cap: shared}, {Name: "b", Parent: 0, Cap: shared}})
	begun.Tree[0].Cap[0].N = 7
	if begun.Tree[1].Cap[0].N != 5 || shared[0].N != 5 {
		t.Errorf("two Caps share memory: %v", begun.Tree)
	}
}

// TestP3: the same question has the same answer, whatever was asked between.
func TestP3(t *testing.T) {
	all := func() []any {
		s, e := plan.Begin(field())
		i, f := plan.Find(farm(), 4)
		return []any{s, e, plan.Check(farm()), i, f}
	}
	first := all()
	every(func(x turn, s api.State) {
		plan.Begin(s.Tree)
		plan.Check(s)
		plan.Find(s, 1)
		if again := all(); !reflect.DeepEqual(first, again) {
			t.Errorf("%s: first %v, then %v", x.name, first, again)
		}
	})
}

// TestP4: what is far more than it may be has its answer, too.
func TestP4(t *testing.T) {
	s := farm()
	s.Books = make([]api.Book, 1<<18)
	if e := plan.Check(s); e != api.ErrMany {
		t.Errorf("many books: %d", e)
	}
	s = farm()
	s.Books[1].Bites = make([]api.Bite, 1<<20)
	if i, e := plan.Find(s, 1); i != 0 || e != api.ErrForm {
		t.Errorf("many bites: %d %d", i, e)
	}
	if b, e := plan.Begin(make([]api.Queue, 1<<18)); len(b.Tree) != 0 || e != api.ErrMany {
		t.Errorf("many queues: %d", e)
	}
}
