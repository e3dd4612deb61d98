package room_test

import (
	"math"
	"reflect"
	"slices"
	"testing"

	"acreage/api"
	"acreage/load"
	"acreage/room"
)

// rs: runs from At and N in turn.
func rs(n ...int) []api.Run {
	f := []api.Run{}
	for i := 0; i+1 < len(n); i += 2 {
		f = append(f, api.Run{At: n[i], N: n[i+1]})
	}
	return f
}

// field: the queues of the document's examples.
func field() []api.Queue {
	return []api.Queue{
		{Name: "all", Parent: -1, Cap: rs(0, 10)},
		{Name: "north", Parent: 0, Cap: rs(0, 8, 20, 4)},
		{Name: "south", Parent: 0, Cap: rs(0, 6)},
		{Name: "barn", Parent: 1, Cap: rs(0, 8)},
	}
}

// plot: a book of the barn: 3 for 4 times, 6 for 5 times, from there on.
func plot(first, second int) api.Book {
	r := api.Request{Queue: 3, From: 2, Until: 30, Kind: api.All, Pieces: []api.Piece{{Len: 4, N: 3}, {Len: 5, N: 6}}}
	return api.Book{Id: 1, Req: r, Bites: []api.Bite{{Piece: 0, At: first}, {Piece: 1, At: second}}}
}

// one: a book of one bite.
func one(q, at, size, n int) api.Book {
	r := api.Request{Queue: q, From: 0, Until: api.End, Kind: api.Any, Pieces: []api.Piece{{Len: size, N: n}}}
	return api.Book{Req: r, Bites: []api.Bite{{Piece: 0, At: at}}}
}

// TestE1: the room of each queue, written out.
func TestE1(t *testing.T) {
	for _, x := range []struct {
		name string
		b    []api.Book
		want [][]api.Run
	}{
		{"no books", nil, [][]api.Run{rs(0, 10), rs(0, 8, 20, 4), rs(0, 6), rs(0, 8, 20, 4)}},
		{"more than there is", []api.Book{plot(8, 10)}, [][]api.Run{rs(0, 10, 8, 7, 10, 1, 12, 4, 15, 10), rs(0, 8, 8, 5, 10, -1, 12, 2, 15, 8, 20, 4), rs(0, 6, 10, 1, 12, 4, 15, 6), rs(0, 8, 8, 5, 10, -1, 12, 2, 15, 8, 20, 4)}},
		{"the one above has less", []api.Book{one(2, 0, 5, 6)}, [][]api.Run{rs(0, 4, 5, 10), rs(0, 4, 5, 8, 20, 4), rs(0, 0, 5, 6), rs(0, 4, 5, 8, 20, 4)}},
		{"those beneath have less", []api.Book{one(3, 0, 5, 8)}, [][]api.Run{rs(0, 2, 5, 10), rs(0, 0, 5, 8, 20, 4), rs(0, 2, 5, 6), rs(0, 0, 5, 8, 20, 4)}},
		{"far below none", slices.Repeat([]api.Book{one(0, 24, 24, 50)}, api.MaxBooks), [][]api.Run{rs(0, 10, 24, -590), rs(0, 8, 20, 4, 24, -590), rs(0, 6, 24, -590), rs(0, 8, 20, 4, 24, -590)}},
	} {
		for q, want := range x.want {
			if got, e := room.Of(field(), x.b, q); e != api.OK || !slices.Equal(got, want) {
				t.Errorf("%s, queue %d: %v %d, not %v", x.name, q, got, e, want)
			}
		}
	}
	apart := []api.Queue{{Name: "a", Parent: -1, Cap: rs(0, 0)}, {Name: "b", Parent: -1, Cap: rs(0, 50)}}
	if got, e := room.Of(apart, nil, 1); e != api.OK || !slices.Equal(got, rs(0, 50)) {
		t.Errorf("a queue that has none above it: %v %d", got, e)
	}
}

// wrong: queues and books that have an error.
func wrong() []struct {
	l []api.Queue
	b []api.Book
	e api.Errno
} {
	book := func(turn func(b *api.Book)) []api.Book {
		b := plot(8, 13)
		turn(&b)
		return []api.Book{b}
	}
	there, form := field(), field()
	there[3].Name = "all"
	form[0].Cap = nil
	type row = struct {
		l []api.Queue
		b []api.Book
		e api.Errno
	}
	return []row{
		{nil, nil, api.ErrMany},
		{there, nil, api.ErrThere},
		{form, nil, api.ErrForm},
		{field(), make([]api.Book, api.MaxBooks+1), api.ErrMany},
		{field(), book(func(b *api.Book) { b.Req.Kind = 0 }), api.ErrKind},
		{field(), book(func(b *api.Book) { b.Req.Pieces = nil }), api.ErrMany},
		{field(), book(func(b *api.Book) { b.Req.Queue = 4 }), api.ErrNone},
		{field(), book(func(b *api.Book) { b.Req.From = -1 }), api.ErrRange},
		{field(), book(func(b *api.Book) { b.Bites[1].At = 26 }), api.ErrForm},
	}
}

// TestE1Errors: load.Of's ahead of ErrNone, and nothing beside an error.
func TestE1Errors(t *testing.T) {
	odd := []int{-1, 4, 5, math.MinInt, math.MaxInt}
	for _, x := range wrong() {
		if _, e := load.Of(x.l, x.b); e != x.e {
			t.Fatalf("load.Of: %d, not %d", e, x.e)
		}
		for _, q := range append([]int{0, 3}, odd...) {
			if got, e := room.Of(x.l, x.b, q); len(got) != 0 || e != x.e {
				t.Errorf("queue %d: %v %d, not %d", q, got, e, x.e)
			}
		}
	}
	for _, q := range odd {
		if got, e := room.Of(field(), []api.Book{plot(8, 13)}, q); len(got) != 0 || e != api.ErrNone {
			t.Errorf("queue %d: %v %d", q, got, e)
		}
	}
}

// TestE2: the soonest time, at the edges of runs, from and until.
func TestE2(t *testing.T) {
	f := rs(0, 8, 8, 5, 10, -1, 12, 2, 15, 8, 20, 4)
	for _, x := range []struct {
		from, until, size, n int
		at                   int
		is                   bool
	}{
		{0, 48, 1, 8, 0, true}, {0, 48, 8, 8, 0, true}, {0, 48, 9, 8, 0, false}, {0, 48, 9, 5, 0, true},
		{1, 48, 8, 6, 0, false}, {1, 48, 7, 6, 1, true}, {2, 48, 7, 5, 2, true}, {4, 48, 6, 5, 4, true},
		{5, 48, 6, 4, 15, true}, {5, 48, 6, 2, 12, true}, {5, 48, 5, 5, 5, true}, {9, 48, 5, 5, 15, true},
		{15, 20, 5, 8, 15, true}, {14, 20, 5, 8, 15, true}, {15, 19, 5, 8, 0, false}, {16, 48, 5, 8, 0, false},
		{0, 1, 1, 8, 0, true}, {0, 1, 2, 8, 0, false}, {0, 1, 1, 9, 0, false}, {47, 48, 1, 4, 47, true}, {47, 48, 2, 4, 0, false},
		{24, 48, 24, 4, 24, true}, {25, 48, 24, 4, 0, false}, {10, 12, 2, -1, 10, true}, {10, 12, 2, 0, 0, false}, {10, 13, 1, 0, 12, true},
		{0, 48, 24, -1, 0, true}, {3, 48, 24, -1, 3, true}, {3, 48, 24, -2, 3, true}, {3, 48, 24, 0, 12, true},
		{0, 48, 1, math.MinInt, 0, true}, {7, 48, 1, -api.MaxNum - 5, 7, true}, {0, 48, 1, math.MaxInt, 0, false}, {0, 48, 1, api.MaxNum + 5, 0, false},
	} {
		if at, is, e := room.First(f, x.from, x.until, x.size, x.n); at != x.at || is != x.is || e != api.OK {
			t.Errorf("from %d to %d, %d for %d times: %d %v %d, not %d %v", x.from, x.until, x.n, x.size, at, is, e, x.at, x.is)
		}
	}
}

// TestE2Errors: those of runs first.
func TestE2Errors(t *testing.T) {
	for _, x := range []struct{ from, until, size int }{
		{-1, 5, 1}, {5, 5, 1}, {6, 5, 1}, {0, 49, 1}, {48, 48, 1}, {48, 49, 1}, {0, 48, 0}, {0, 48, -1}, {0, 48, api.MaxLen + 1},
		{math.MinInt, math.MaxInt, 1}, {math.MaxInt, math.MinInt, 1}, {0, 48, math.MaxInt}, {0, 48, math.MinInt}, {0, math.MaxInt, 1}, {math.MinInt, 48, 1},
	} {
		if at, is, e := room.First(rs(0, 5), x.from, x.until, x.size, 1); at != 0 || is || e != api.ErrRange {
			t.Errorf("%v: %d %v %d", x, at, is, e)
		}
		for _, f := range [][]api.Run{nil, rs(1, 5), rs(0, 5, 3, 5), rs(0, 5, 48, 6), rs(0, api.MaxNum+1)} {
			if at, is, e := room.First(f, x.from, x.until, x.size, 1); at != 0 || is || e != api.ErrForm {
				t.Errorf("%v of %v: %d %v %d", x, f, at, is, e)
			}
			if at, is, e := room.First(f, 0, 48, 1, 1); at != 0 || is || e != api.ErrForm {
				t.Errorf("of %v: %d %v %d", f, at, is, e)
			}
		}
	}
	if at, is, e := room.First(rs(0, 5), 0, 48, api.MaxLen, 5); at != 0 || !is || e != api.OK {
		t.Errorf("MaxLen: %d %v %d", at, is, e)
	}
}

// drawn: numbers, the same each time.
type drawn uint64

func (d *drawn) below(n int) int {
	*d = *d*6364136223846793005 + 1442695040888963407
	return int(uint64(*d) >> 33 % uint64(n))
}

// said: what right runs say, time by time.
func said(f []api.Run) [api.End]int {
	var s [api.End]int
	for _, r := range f {
		for t := r.At; t < api.End; t++ {
			s[t] = r.N
		}
	}
	return s
}

// queues and books that are drawn, right ones.
func (d *drawn) state() ([]api.Queue, []api.Book) {
	l, b := []api.Queue{}, []api.Book{}
	for i := range 1 + d.below(api.MaxQueues) {
		n := d.below(20)
		l = append(l, api.Queue{Name: string(rune('a' + i)), Parent: d.below(i+1) - 1, Cap: rs(0, n, 1+d.below(47), n+1+d.below(5))})
	}
	for range d.below(api.MaxBooks + 1) {
		size := 1 + d.below(api.MaxLen)
		b = append(b, one(d.below(len(l)), d.below(api.End-size+1), size, 1+d.below(6)))
	}
	return l, b
}

// TestE1AllTimes: of each queue, time by time: what is left of the one that has least, up its line.
func TestE1AllTimes(t *testing.T) {
	d := drawn(9)
	for range 400 {
		l, b := d.state()
		taken, _ := load.Of(l, b)
		for q := range l {
			got, e := room.Of(l, b, q)
			if e != api.OK {
				t.Fatalf("queue %d of %v, %v: %d", q, l, b, e)
			}
			var want [api.End]int
			for i := range want {
				want[i] = math.MaxInt
				for p := q; p != -1; p = l[p].Parent {
					want[i] = min(want[i], said(l[p].Cap)[i]-said(taken[p])[i])
				}
			}
			if said(got) != want {
				t.Fatalf("queue %d of %v, %v: %v, not %v", q, l, b, got, want)
			}
			for i, r := range got {
				if i > 0 && r.N == got[i-1].N {
					t.Fatalf("not right: %v", got)
				}
			}
		}
	}
}

// TestE2All: what is found has room all along, and nothing sooner has.
func TestE2All(t *testing.T) {
	d := drawn(5)
	found := 0
	for range 4000 {
		f := rs(0, d.below(9)-2)
		for at := 1; at < api.End; at++ {
			if n := d.below(9) - 2; d.below(4) == 0 && n != f[len(f)-1].N {
				f = append(f, api.Run{At: at, N: n})
			}
		}
		from, size, n := d.below(api.End), 1+d.below(api.MaxLen), d.below(6)-1
		until := from + 1 + d.below(api.End-from)
		s := said(f)
		has := func(at int) bool {
			for i := range size {
				if at+i >= until || s[at+i] < n {
					return false
				}
			}
			return true
		}
		at, is, e := room.First(f, from, until, size, n)
		if e != api.OK {
			t.Fatalf("%d", e)
		}
		want, there := 0, false
		for i := until - 1; i >= from; i-- {
			if has(i) {
				want, there = i, true
			}
		}
		if at != want || is != there {
			t.Fatalf("First of %v, %d, %d, %d, %d: %d %v, not %d %v", f, from, until, size, n, at, is, want, there)
		}
		if is {
			found++
		}
	}
	if found < 400 {
		t.Errorf("only %d were found", found)
	}
}

// TestP1: whatever is handed in, every call ends and none panics.
func TestP1(t *testing.T) {
	odd := []int{math.MinInt, -1, 0, 1, 3, api.End, math.MaxInt}
	for _, a := range odd {
		for _, b := range odd {
			for _, c := range odd {
				for _, n := range odd {
					room.First(rs(0, 1, a, b), a, b, c, n)
					room.First(rs(0, 5, 9, 4), a, b, c, n)
					room.First(nil, a, b, c, n)
				}
				books := []api.Book{plot(a, b), one(c, a, b, c)}
				room.Of(field(), books, a)
				room.Of(field(), books[1:], b)
				room.Of(nil, books, c)
				room.Of(field(), nil, a)
				room.Of(make([]api.Queue, 3), nil, a)
			}
		}
	}
}

// roomy: the same list, with spare room behind it that is as mark says.
func roomy[T any](l []T, mark T) []T {
	x := append(make([]T, 0, len(l)+5), l...)
	for i := len(l); i < cap(x); i++ {
		x[:cap(x)][i] = mark
	}
	return x
}

// spread: a list, up to its capacity.
func spread[T any](l []T) []T { return l[:cap(l)] }

// handed: queues and books with spare room behind each list.
func handed() ([]api.Queue, []api.Book) {
	l := roomy(field(), api.Queue{Name: "mark", Parent: 7})
	for i := range l {
		l[i].Cap = roomy(l[i].Cap, api.Run{At: 7, N: 7})
	}
	b := roomy([]api.Book{plot(8, 13)}, api.Book{Id: -7})
	b[0].Req.Pieces = roomy(b[0].Req.Pieces, api.Piece{Len: 7, N: 7})
	b[0].Bites = roomy(b[0].Bites, api.Bite{Piece: 7, At: 7})
	return l, b
}

// TestP2: what is handed in is only read, and an answer shares nothing with it, nor with another one.
func TestP2(t *testing.T) {
	l, b := handed()
	f := roomy(rs(0, 1, 5, 6), api.Run{At: 7, N: 7})
	room.First(f, 0, 48, 3, 5)
	if !slices.Equal(spread(f), spread(roomy(rs(0, 1, 5, 6), api.Run{At: 7, N: 7}))) {
		t.Errorf("First has changed what it was handed: %v", spread(f))
	}
	for q := range l {
		for _, books := range [][]api.Book{nil, b} {
			first, _ := room.Of(l, books, q)
			second, _ := room.Of(l, books, q)
			want := slices.Clone(first)
			for i := range spread(second) {
				spread(second)[i] = api.Run{At: -1, N: -1}
			}
			l1, b1 := handed()
			if !slices.Equal(first, want) || !reflect.DeepEqual(spread(l), spread(l1)) || !reflect.DeepEqual(spread(b), spread(b1)) {
				t.Fatalf("queue %d: something has changed", q)
			}
			for i := range l {
				if !slices.Equal(spread(l[i].Cap), spread(l1[i].Cap)) {
					t.Fatalf("queue %d: a Cap has changed: %v", q, spread(l[i].Cap))
				}
			}
			if !slices.Equal(spread(b[0].Bites), spread(b1[0].Bites)) || !slices.Equal(spread(b[0].Req.Pieces), spread(b1[0].Req.Pieces)) {
				t.Fatalf("queue %d: a book has changed", q)
			}
		}
	}
}

// TestP3: the same question has the same answer, whatever was asked between.
func TestP3(t *testing.T) {
	b := []api.Book{plot(8, 10)}
	first, e := room.Of(field(), b, 3)
	at, is, f := room.First(first, 9, 48, 5, 4)
	for _, x := range wrong() {
		room.Of(x.l, x.b, 3)
		room.Of(field(), nil, 9)
		room.First(nil, 0, 1, 1, 1)
	}
	again, e1 := room.Of(field(), b, 3)
	at1, is1, f1 := room.First(again, 9, 48, 5, 4)
	if !slices.Equal(first, again) || e != e1 || at != at1 || is != is1 || f != f1 {
		t.Errorf("first %v %d %d %v %d, then %v %d %d %v %d", first, e, at, is, f, again, e1, at1, is1, f1)
	}
}

// TestP4: what is far more than it may be has its answer, too.
func TestP4(t *testing.T) {
	if at, is, e := room.First(make([]api.Run, 1<<20), 0, 48, 1, 0); at != 0 || is || e != api.ErrForm {
		t.Errorf("many runs: %d %v %d", at, is, e)
	}
	if got, e := room.Of(field(), make([]api.Book, 1<<18), 0); len(got) != 0 || e != api.ErrMany {
		t.Errorf("many books: %v %d", got, e)
	}
	if got, e := room.Of(make([]api.Queue, 1<<18), nil, 0); len(got) != 0 || e != api.ErrMany {
		t.Errorf("many queues: %v %d", got, e)
	}
}
