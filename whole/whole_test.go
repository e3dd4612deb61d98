// Package whole_test: the document's section 'What the whole promises', a test each, of states that are drawn.
package whole_test

import (
	"reflect"
	"slices"
	"testing"

	"acreage/api"
	"acreage/ask"
	"acreage/cut"
	"acreage/load"
	"acreage/log"
	"acreage/place"
	"acreage/plan"
	"acreage/req"
	"acreage/room"
	"acreage/runs"
	"acreage/tree"
)

// drawn: numbers, the same each time.
type drawn uint64

func (d *drawn) below(n int) int {
	*d = *d*6364136223846793005 + 1442695040888963407
	return int(uint64(*d) >> 33 % uint64(n))
}

// runs that are drawn: from least to most.
func (d *drawn) runs(least, most int) []api.Run {
	f := []api.Run{{At: 0, N: least + d.below(most-least+1)}}
	for at := 1; at < api.End; at++ {
		if n := least + d.below(most-least+1); d.below(8) == 0 && n != f[len(f)-1].N {
			f = append(f, api.Run{At: at, N: n})
		}
	}
	return f
}

// queues that are drawn.
func (d *drawn) queues() []api.Queue {
	var l []api.Queue
	for i := range 1 + d.below(api.MaxQueues) {
		l = append(l, api.Queue{Name: string(rune('a' + i)), Parent: d.below(i+1) - 1, Cap: d.runs(3, 12)})
	}
	return l
}

// wish: a request that is drawn, of one of so many queues, from clock on.
func (d *drawn) wish(queues, clock int) api.Request {
	from := min(api.End-1, clock+d.below(api.End))
	r := api.Request{Queue: d.below(queues), From: (from + clock) / 2, Kind: 1 + d.below(4)}
	r.Until = r.From + 1 + d.below(api.End-r.From)
	for range 1 + d.below(api.MaxPieces) {
		r.Pieces = append(r.Pieces, api.Piece{Len: 1 + d.below(6), N: 1 + d.below(5)})
	}
	return r
}

// act that is drawn, for that state.
func (d *drawn) act(s api.State) api.Act {
	switch d.below(10) {
	case 0:
		return api.Act{Kind: api.ActCancel, N: d.below(s.Next + 1)}
	case 1, 2:
		return api.Act{Kind: api.ActTick, N: max(0, s.Clock+d.below(5)-1)}
	case 3:
		return api.Act{Kind: api.ActChange, N: d.below(len(s.Tree) + 1), Cap: d.runs(0, 12)}
	case 4:
		return api.Act{Kind: d.below(6), N: d.below(60), Req: d.wish(6, 0), Cap: d.runs(-1, 52)}
	}
	return api.Act{Kind: api.ActSubmit, Req: d.wish(len(s.Tree), s.Clock)}
}

// states that are drawn: each comes of the one ahead by an act.
func (d *drawn) states(n int) []api.State {
	s, _ := plan.Begin(d.queues())
	l := []api.State{s}
	for len(l) < n {
		if x, e := log.Do(s, d.act(s)); e == api.OK {
			s = x
		}
		l = append(l, s)
	}
	return l
}

// said: what runs say, time by time.
func said(f []api.Run) [api.End]int {
	var out [api.End]int
	for _, r := range f {
		for at := r.At; at < api.End; at++ {
			out[at] = r.N
		}
	}
	return out
}

// right: the runs that say that. (There is one way to say it.)
func right(n [api.End]int) []api.Run {
	var f []api.Run
	for at, x := range n {
		if at == 0 || x != n[at-1] {
			f = append(f, api.Run{At: at, N: x})
		}
	}
	return f
}

// under: does queue q stand in the line of queue p?
func under(l []api.Queue, p, q int) bool {
	for p > q {
		p = l[p].Parent
	}
	return p == q
}

// bitten: what a book takes at a time.
func bitten(b api.Book, at int) int {
	n := 0
	for _, x := range b.Bites {
		if p := b.Req.Pieces[x.Piece]; x.At <= at && at < x.At+p.Len {
			n += p.N
		}
	}
	return n
}

// left: what a queue by itself has left at a time.
func left(s api.State, q, at int) int {
	n := said(s.Tree[q].Cap)[at]
	for _, b := range s.Books {
		if under(s.Tree, b.Req.Queue, q) {
			n -= bitten(b, at)
		}
	}
	return n
}

// TestOneWay: what is said of all times is said in one way, whoever says it.
func TestOneWay(t *testing.T) {
	d := drawn(51)
	check := func(who string, f []api.Run, e api.Errno) {
		t.Helper()
		if e != api.OK || runs.Check(f) != api.OK || !slices.Equal(f, right(said(f))) {
			t.Fatalf("%s: %v %d", who, f, e)
		}
	}
	for range 300 {
		f, g := d.runs(-4, 4), d.runs(-4, 4)
		sum, e := runs.Plus(f, g)
		check("Plus", sum, e)
		back, e := runs.Minus(sum, g)
		check("Minus", back, e)
		if !slices.Equal(back, f) {
			t.Fatalf("%v and %v, less that: %v", f, g, back)
		}
		less, e := runs.Lesser(f, g)
		check("Lesser", less, e)
		a := d.below(api.End)
		b := a + 1 + d.below(api.End-a)
		n := d.below(5)
		more, e := runs.Bump(f, a, b, n)
		check("Bump", more, e)
		back, e = runs.Bump(more, a, b, -n)
		if check("Bump", back, e); !slices.Equal(back, f) {
			t.Fatalf("%v, %d more from %d to %d, and back: %v", f, n, a, b, back)
		}
	}
	for _, s := range d.states(200) {
		taken, e := load.Of(s.Tree, s.Books)
		for q, f := range taken {
			check("load.Of", f, e)
			r, e := room.Of(s.Tree, s.Books, q)
			check("room.Of", r, e)
		}
	}
}

// TestNoLess: a queue takes no less than any that is under it.
func TestNoLess(t *testing.T) {
	d := drawn(52)
	pairs := 0
	for range 6 {
		for _, s := range d.states(60) {
			taken, e := load.Of(s.Tree, s.Books)
			if e != api.OK {
				t.Fatalf("%v: %d", s, e)
			}
			for q := range s.Tree {
				is, _ := tree.Under(s.Tree, q)
				for p := range s.Tree {
					if is[p] != under(s.Tree, p, q) {
						t.Fatalf("%v: %d under %d: %v", s.Tree, p, q, is[p])
					}
					a, b := said(taken[q]), said(taken[p])
					for at := range api.End {
						if is[p] && a[at] < b[at] {
							t.Fatalf("%v: %d takes %d at %d, and %d under it %d", s, q, a[at], at, p, b[at])
						}
						if is[p] && p != q && a[at] > 0 {
							pairs++
						}
					}
				}
			}
		}
	}
	if pairs < 1000 {
		t.Errorf("drawn too little: %d", pairs)
	}
}

// TestFirst: what is found has room all along, and nothing sooner has.
func TestFirst(t *testing.T) {
	d := drawn(53)
	found, none := 0, 0
	for range 5000 {
		f := d.runs(-2, 9)
		from := d.below(api.End)
		until := from + 1 + d.below(api.End-from)
		size, n := 1+d.below(8), d.below(9)
		has := said(f)
		must := -1
		for at := from; at+size <= until && must < 0; at++ {
			if slices.Min(has[at:at+size]) >= n {
				must = at
			}
		}
		at, is, e := room.First(f, from, until, size, n)
		if e != api.OK || is != (must >= 0) || is && at != must || !is && at != 0 {
			t.Fatalf("%v, from %d to %d, %d for %d times: %d %v %d, not %d", f, from, until, n, size, at, is, e, must)
		}
		if is {
			found++
		} else {
			none++
		}
	}
	if found < 500 || none < 500 {
		t.Errorf("drawn too much of one sort: %d %d", found, none)
	}
}

// TestPlace: what is found meets the request, and has room; of any, order and tight none is found only where there is none.
func TestPlace(t *testing.T) {
	d := drawn(54)
	var found, none [5]int
	for range 6000 {
		f, r := d.runs(-2, 7), d.wish(1, 0)
		bites, is, e := place.Find(f, r)
		if e != api.OK {
			t.Fatalf("%v %v: %d", f, r, e)
		}
		if !is {
			none[r.Kind]++
			if r.Kind != api.All && anywhere(said(f), r, 0, r.From) {
				t.Fatalf("%v: there is a place for %v", f, r)
			}
			continue
		}
		found[r.Kind]++
		if !req.Meets(r, bites) {
			t.Fatalf("%v: %v does not meet %v", f, bites, r)
		}
		has, b := said(f), api.Book{Req: r, Bites: bites}
		for at := range api.End {
			if n := bitten(b, at); n > 0 && n > has[at] {
				t.Fatalf("%v: %v of %v has no room at %d", f, bites, r, at)
			}
		}
	}
	for kind := api.All; kind <= api.Tight; kind++ {
		if found[kind] < 100 || none[kind] < 100 {
			t.Errorf("kind %d: drawn too much of one sort: %d %d", kind, found[kind], none[kind])
		}
	}
}

// anywhere: is there any place for the pieces from number i on, from from on? (All are tried.)
func anywhere(has [api.End]int, r api.Request, i, from int) bool {
	if i == len(r.Pieces) {
		return r.Kind != api.Any
	}
	p := r.Pieces[i]
	for at := from; at+p.Len <= r.Until; at++ {
		if slices.Min(has[at:at+p.Len]) >= p.N && (r.Kind == api.Any || anywhere(has, tighter(r), i+1, at+p.Len)) {
			return true
		}
		if r.Kind == bound {
			return false
		}
	}
	return r.Kind == api.Any && anywhere(has, r, i+1, from)
}

// bound is the kind of a tight request of which a piece is put: the next one must begin just there.
const bound = -1

func tighter(r api.Request) api.Request {
	if r.Kind == api.Tight {
		r.Kind = bound
	}
	return r
}

// TestRoom: of a right state no queue has less room than none, from the clock on.
func TestRoom(t *testing.T) {
	d := drawn(55)
	books := 0
	for range 4 {
		for _, s := range d.states(60) {
			if e := plan.Check(s); e != api.OK {
				t.Fatalf("%v: %d", s, e)
			}
			for q := range s.Tree {
				f, e := room.Of(s.Tree, s.Books, q)
				for at := s.Clock; at < api.End; at++ {
					n, g := ask.Left(s, q, at)
					if e != api.OK || g != api.OK || n != said(f)[at] || n < 0 {
						t.Fatalf("%v: queue %d has %d at %d: %d %d", s, q, n, at, e, g)
					}
				}
			}
			books += len(s.Books)
			// And a state in which one has less is not right.
			if q, at := d.below(len(s.Tree)), s.Clock; at < api.End {
				taken, _ := ask.Busy(s, q, at)
				if taken == 0 {
					continue
				}
				n := said(s.Tree[q].Cap)
				n[at] = taken - 1
				s.Tree = slices.Clone(s.Tree)
				s.Tree[q].Cap = right(n)
				if e := plan.Check(s); e != api.ErrSum {
					t.Fatalf("%v: %d", s, e)
				}
			}
		}
	}
	if books < 300 {
		t.Errorf("drawn too little: %d", books)
	}
}

// TestActs: whatever act is done to a right state, what comes is right; and with an error nothing comes.
func TestActs(t *testing.T) {
	d := drawn(56)
	var did [6]int
	wrong := 0
	for range 25 {
		s, _ := plan.Begin(d.queues())
		for range 60 {
			a := d.act(s)
			x, e := log.Do(s, a)
			if e != api.OK {
				wrong++
				if x.Clock != 0 || x.Next != 0 || len(x.Tree) != 0 || len(x.Books) != 0 {
					t.Fatalf("%v, %v: %v beside %d", s, a, x, e)
				}
				continue
			}
			did[a.Kind]++
			if e := plan.Check(x); e != api.OK {
				t.Fatalf("%v, %v: %v is not right: %d", s, a, x, e)
			}
			s = x
		}
	}
	if wrong < 100 || did[api.ActSubmit] < 100 || did[api.ActCancel] < 20 || did[api.ActTick] < 100 || did[api.ActChange] < 50 {
		t.Errorf("drawn too little: %v %d", did, wrong)
	}
}

// TestLess: whatever room is taken away, all fits again; nobody gives way who took nothing when too much was taken.
func TestLess(t *testing.T) {
	d := drawn(57)
	ways := 0
	for range 10 {
		for _, s := range d.states(50) {
			q, f := d.below(len(s.Tree)), d.runs(0, 9)
			x, moved, dropped, e := cut.Change(s, q, f)
			if e != api.OK {
				t.Fatalf("%v: %d", s, e)
			}
			if fits, e := load.Fits(x.Tree, x.Books, x.Clock); !fits || e != api.OK {
				t.Fatalf("%v, %d, %v: %v does not fit: %d", s, q, f, x, e)
			}
			less := s
			less.Tree = slices.Clone(s.Tree)
			less.Tree[q].Cap = f
			for _, b := range s.Books {
				gives := slices.Contains(moved, b.Id) || slices.Contains(dropped, b.Id)
				if gives && !tooMuch(less, b) {
					t.Fatalf("%v, %d, %v: Id %d gave way", s, q, f, b.Id)
				}
				if !gives && !slices.ContainsFunc(x.Books, func(c api.Book) bool { return reflect.DeepEqual(b, c) }) {
					t.Fatalf("%v, %d, %v: Id %d is not as it was: %v", s, q, f, b.Id, x)
				}
			}
			ways += len(moved) + len(dropped)
		}
	}
	if ways < 100 {
		t.Errorf("drawn too little: %d", ways)
	}
}

// tooMuch: did the book take something when too much was taken of a queue of its line?
func tooMuch(s api.State, b api.Book) bool {
	for at := s.Clock; at < api.End; at++ {
		for q := range s.Tree {
			if bitten(b, at) > 0 && under(s.Tree, b.Req.Queue, q) && left(s, q, at) < 0 {
				return true
			}
		}
	}
	return false
}

// TestLog: wherever a log is cut, what is recovered is what was done by the acts that are whole.
func TestLog(t *testing.T) {
	d := drawn(58)
	done := 0
	for range 4 {
		l := d.queues()
		now, _ := plan.Begin(l)
		text, whole := "", 0
		states, ends := []api.State{now}, []int{0}
		for whole < api.MaxActs && len(text) < 900 {
			a := d.act(now)
			b, e := log.Write(a)
			if e != api.OK {
				continue
			}
			if x, e := log.Do(now, a); e == api.OK {
				now = x
				done++
			}
			text += b
			whole++
			states, ends = append(states, now), append(ends, len(text))
		}
		n := 0
		for end := range len(text) + 1 {
			if n+1 < len(ends) && ends[n+1] == end {
				n++
			}
			x, k, e := log.Recover(l, text[:end])
			if e != api.OK || k != n || !same(x, states[n]) {
				t.Fatalf("%v, %q: %v %d %d, not %v %d", l, text[:end], x, k, e, states[n], n)
			}
		}
	}
	if done < 60 {
		t.Errorf("drawn too little: %d", done)
	}
}

// same: do both states say the same? (An empty list may be nil or not.)
func same(a, b api.State) bool {
	return a.Clock == b.Clock && a.Next == b.Next && reflect.DeepEqual(a.Tree, b.Tree) && slices.EqualFunc(a.Books, b.Books, func(x, y api.Book) bool { return reflect.DeepEqual(x, y) })
}
