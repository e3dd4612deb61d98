package load_test

import (
	"math"
	"reflect"
	"slices"
	"testing"

	"acreage/api"
	"acreage/load"
	"acreage/tree"
)

// rs: runs from At and N in turn.
func rs(n ...int) []api.Run {
	f := []api.Run{}
	for i := 0; i+1 < len(n); i += 2 {
		f = append(f, api.Run{At: n[i], N: n[i+1]})
	}
	return f
}

// field: the queues of the document's examples.
func field() []api.Queue {
	return []api.Queue{
		{Name: "all", Parent: -1, Cap: rs(0, 10)},
		{Name: "north", Parent: 0, Cap: rs(0, 8, 20, 4)},
		{Name: "south", Parent: 0, Cap: rs(0, 6)},
		{Name: "barn", Parent: 1, Cap: rs(0, 8)},
	}
}

// plot: a book of the barn: 3 for 4 times, 6 for 5 times, from there on.
func plot(first, second int) api.Book {
	r := api.Request{Queue: 3, From: 2, Until: 30, Kind: api.All, Pieces: []api.Piece{{Len: 4, N: 3}, {Len: 5, N: 6}}}
	return api.Book{Id: 1, Req: r, Bites: []api.Bite{{Piece: 0, At: first}, {Piece: 1, At: second}}}
}

// one: a book of one bite.
func one(q, at, size, n int) api.Book {
	r := api.Request{Queue: q, From: 0, Until: api.End, Kind: api.Any, Pieces: []api.Piece{{Len: size, N: n}}}
	return api.Book{Req: r, Bites: []api.Bite{{Piece: 0, At: at}}}
}

// TestD1: what is taken, written out.
func TestD1(t *testing.T) {
	second := api.Request{Queue: 1, From: 0, Until: 48, Kind: api.Any, Pieces: []api.Piece{{Len: 24, N: 50}, {Len: 2, N: 1}, {Len: 1, N: 49}}}
	for _, x := range []struct {
		name string
		b    []api.Book
		want [][]api.Run
	}{
		{"no books", nil, [][]api.Run{rs(0, 0), rs(0, 0), rs(0, 0), rs(0, 0)}},
		{"two bites", []api.Book{plot(8, 10)}, [][]api.Run{rs(0, 0, 8, 3, 10, 9, 12, 6, 15, 0), rs(0, 0, 8, 3, 10, 9, 12, 6, 15, 0), rs(0, 0), rs(0, 0, 8, 3, 10, 9, 12, 6, 15, 0)}},
		{"barn and south", []api.Book{plot(8, 13), one(2, 9, 6, 4)}, [][]api.Run{rs(0, 0, 8, 3, 9, 7, 12, 4, 13, 10, 15, 6, 18, 0), rs(0, 0, 8, 3, 12, 0, 13, 6, 18, 0), rs(0, 0, 9, 4, 15, 0), rs(0, 0, 8, 3, 12, 0, 13, 6, 18, 0)}},
		{"of the topmost", []api.Book{one(0, 0, 1, 7)}, [][]api.Run{rs(0, 7, 1, 0), rs(0, 0), rs(0, 0), rs(0, 0)}},
		{"from both ends", []api.Book{one(1, 0, 24, 5), one(1, 24, 24, 5)}, [][]api.Run{rs(0, 5), rs(0, 5), rs(0, 0), rs(0, 0)}},
		{"the last time", []api.Book{one(2, 47, 1, 50)}, [][]api.Run{rs(0, 0, 47, 50), rs(0, 0), rs(0, 0, 47, 50), rs(0, 0)}},
		{"the bite's own piece", []api.Book{{Req: second, Bites: []api.Bite{{Piece: 1, At: 3}}}}, [][]api.Run{rs(0, 0, 3, 1, 5, 0), rs(0, 0, 3, 1, 5, 0), rs(0, 0), rs(0, 0)}},
		{"as many as may be", slices.Repeat([]api.Book{one(3, 5, 24, 50)}, api.MaxBooks), [][]api.Run{rs(0, 0, 5, 600, 29, 0), rs(0, 0, 5, 600, 29, 0), rs(0, 0), rs(0, 0, 5, 600, 29, 0)}},
	} {
		got, e := load.Of(field(), x.b)
		if e != api.OK || !slices.EqualFunc(got, x.want, slices.Equal) {
			t.Errorf("%s: %v %d, not %v", x.name, got, e, x.want)
		}
	}
}

// TestD2: more than there is, of one queue or of one above it, and from when on.
func TestD2(t *testing.T) {
	for _, x := range []struct {
		name  string
		b     []api.Book
		times map[int]bool
	}{
		{"no books", nil, map[int]bool{0: true, 47: true, 48: true}},
		{"at 10 the barn takes 9", []api.Book{plot(8, 10)}, map[int]bool{0: false, 9: false, 10: false, 11: false, 12: true, 48: true}},
		{"all that the barn has", []api.Book{one(3, 0, 20, 8)}, map[int]bool{0: true, 19: true}},
		{"more than the barn has", []api.Book{one(3, 0, 20, 9)}, map[int]bool{0: false, 19: false, 20: true}},
		{"less than the barn has, more than the north", []api.Book{one(3, 19, 2, 5)}, map[int]bool{0: false, 20: false, 21: true}},
		{"less than each has, more than all", []api.Book{one(3, 0, 5, 6), one(2, 3, 5, 5)}, map[int]bool{0: false, 4: false, 5: true}},
		{"all of it", []api.Book{one(3, 0, 5, 6), one(2, 3, 5, 4)}, map[int]bool{0: true}},
		{"south alone", []api.Book{one(2, 40, 8, 7)}, map[int]bool{0: false, 47: false, 48: true}},
	} {
		for from, want := range x.times {
			if is, e := load.Fits(field(), x.b, from); is != want || e != api.OK {
				t.Errorf("%s, from %d: %v %d", x.name, from, is, e)
			}
		}
		for _, from := range []int{-1, api.End + 1, math.MinInt, math.MaxInt} {
			if is, e := load.Fits(field(), x.b, from); is || e != api.ErrRange {
				t.Errorf("%s, from %d: %v %d", x.name, from, is, e)
			}
		}
	}
}

// wrong: queues and books that have an error; where several apply, the one that is told.
func wrong() []struct {
	name string
	l    []api.Queue
	b    []api.Book
	e    api.Errno
} {
	book := func(turn func(b *api.Book)) api.Book {
		b := plot(8, 13)
		turn(&b)
		return b
	}
	kind := book(func(b *api.Book) { b.Req.Kind = 5 })
	many := book(func(b *api.Book) { b.Req.Pieces = nil })
	none := book(func(b *api.Book) { b.Req.Queue = 4 })
	out := book(func(b *api.Book) { b.Req.Until = 49 })
	form := book(func(b *api.Book) { b.Bites = nil })
	fine := plot(8, 13)
	name := field()
	name[1].Name = ""
	type row = struct {
		name string
		l    []api.Queue
		b    []api.Book
		e    api.Errno
	}
	return []row{
		{"no queues", nil, nil, api.ErrMany},
		{"no queues, wrong books", nil, []api.Book{kind}, api.ErrMany},
		{"no name", name, nil, api.ErrName},
		{"no name, many books", name, make([]api.Book, api.MaxBooks+1), api.ErrName},
		{"many books", field(), slices.Repeat([]api.Book{fine}, api.MaxBooks+1), api.ErrMany},
		{"many wrong books", field(), make([]api.Book, api.MaxBooks+1), api.ErrMany},
		{"empty book", field(), make([]api.Book, 1), api.ErrKind},
		{"kind", field(), []api.Book{kind}, api.ErrKind},
		{"pieces", field(), []api.Book{many}, api.ErrMany},
		{"queue", field(), []api.Book{none}, api.ErrNone},
		{"queue below 0", field(), []api.Book{book(func(b *api.Book) { b.Req.Queue = -1 })}, api.ErrNone},
		{"times", field(), []api.Book{out}, api.ErrRange},
		{"bites", field(), []api.Book{form}, api.ErrForm},
		{"bite too soon", field(), []api.Book{plot(1, 13)}, api.ErrForm},
		{"bite too late", field(), []api.Book{plot(8, 26)}, api.ErrForm},
		{"not in order", field(), []api.Book{book(func(b *api.Book) { b.Req.Kind, b.Bites[1].At = api.Order, 11 })}, api.ErrForm},
		{"queue and times", field(), []api.Book{book(func(b *api.Book) { b.Req.Queue, b.Req.Until = 4, 49 })}, api.ErrNone},
		{"times and bites", field(), []api.Book{book(func(b *api.Book) { b.Req.Until, b.Bites = 49, nil })}, api.ErrRange},
		{"the last book", field(), []api.Book{fine, fine, form}, api.ErrForm},
		{"the first book", field(), []api.Book{form, fine, fine}, api.ErrForm},
		{"bites, then times", field(), []api.Book{form, out}, api.ErrRange},
		{"times, then queue", field(), []api.Book{out, none, form}, api.ErrNone},
		{"queue, then pieces", field(), []api.Book{none, many, out}, api.ErrMany},
		{"pieces, then kind", field(), []api.Book{many, fine, kind}, api.ErrKind},
		{"kind, then pieces", field(), []api.Book{kind, many, none, out, form}, api.ErrKind},
	}
}

// TestD1Errors: in their order, ahead of a wrong from, and with nothing beside them.
func TestD1Errors(t *testing.T) {
	for _, x := range wrong() {
		if got, e := load.Of(x.l, x.b); len(got) != 0 || e != x.e {
			t.Errorf("%s: %v %d, not %d", x.name, got, e, x.e)
		}
		for _, from := range []int{0, 5, api.End, -1, api.End + 1} {
			if is, e := load.Fits(x.l, x.b, from); is || e != x.e {
				t.Errorf("%s, from %d: %v %d, not %d", x.name, from, is, e, x.e)
			}
		}
	}
}

// TestD1IdsCountForNothing: a book's Id is not asked for here.
func TestD1IdsCountForNothing(t *testing.T) {
	b := []api.Book{plot(8, 13), one(2, 9, 6, 4)}
	want, _ := load.Of(field(), b)
	for _, id := range []int{-1, 0, 1, math.MinInt, math.MaxInt} {
		b[0].Id, b[1].Id = id, id
		if got, e := load.Of(field(), b); e != api.OK || !reflect.DeepEqual(got, want) {
			t.Errorf("Id %d: %v %d", id, got, e)
		}
	}
}

// drawn: numbers, the same each time.
type drawn uint64

func (d *drawn) below(n int) int {
	*d = *d*6364136223846793005 + 1442695040888963407
	return int(uint64(*d) >> 33 % uint64(n))
}

// queues and books that are drawn, right ones.
func (d *drawn) state() ([]api.Queue, []api.Book) {
	l := []api.Queue{}
	for i := range 1 + d.below(api.MaxQueues) {
		n := 5 + d.below(20)
		l = append(l, api.Queue{Name: string(rune('a' + i)), Parent: d.below(i+1) - 1, Cap: rs(0, n, 1+d.below(47), n+1)})
	}
	b := []api.Book{}
	for range d.below(api.MaxBooks + 1) {
		r := api.Request{Queue: d.below(len(l)), Until: api.End, Kind: api.All}
		var bites []api.Bite
		for i := range 1 + d.below(api.MaxPieces) {
			p := api.Piece{Len: 1 + d.below(api.MaxLen), N: 1 + d.below(4)}
			r.Pieces = append(r.Pieces, p)
			bites = append(bites, api.Bite{Piece: i, At: d.below(api.End - p.Len + 1)})
		}
		b = append(b, api.Book{Req: r, Bites: bites})
	}
	return l, b
}

// plainly: what is taken of each queue, time by time, by tree.Under's word.
func plainly(l []api.Queue, b []api.Book) [][api.End]int {
	taken := make([][api.End]int, len(l))
	for q := range l {
		under, _ := tree.Under(l, q)
		for _, x := range b {
			for _, bite := range x.Bites {
				p := x.Req.Pieces[bite.Piece]
				for i := range p.Len {
					if under[x.Req.Queue] {
						taken[q][bite.At+i] += p.N
					}
				}
			}
		}
	}
	return taken
}

// said: what right runs say, time by time.
func said(f []api.Run) [api.End]int {
	var s [api.End]int
	for _, r := range f {
		for t := r.At; t < api.End; t++ {
			s[t] = r.N
		}
	}
	return s
}

// TestDAllTimes: both calls against what is taken time by time; and a queue takes no less than any that is under it.
func TestDAllTimes(t *testing.T) {
	d := drawn(4)
	fitting := [2]int{}
	for range 400 {
		l, b := d.state()
		got, e := load.Of(l, b)
		if e != api.OK || len(got) != len(l) {
			t.Fatalf("%v of %v: %d", b, l, e)
		}
		last := -1
		for q, want := range plainly(l, b) {
			if said(got[q]) != want {
				t.Fatalf("queue %d of %v, %v: %v, not %v", q, l, b, got[q], want)
			}
			for i, r := range got[q] {
				if i > 0 && r.N == got[q][i-1].N {
					t.Fatalf("queue %d: not right: %v", q, got[q])
				}
			}
			room := said(l[q].Cap)
			for i := range api.End {
				if want[i] > room[i] {
					last = max(last, i)
				}
				if p := l[q].Parent; p >= 0 && said(got[p])[i] < want[i] {
					t.Fatalf("queue %d takes less than %d, that is under it, at %d", p, q, i)
				}
			}
		}
		for from := range api.End + 1 {
			is, e := load.Fits(l, b, from)
			if want := from > last; is != want || e != api.OK {
				t.Fatalf("%v of %v, from %d: %v %d", b, l, from, is, e)
			}
		}
		if last < 0 {
			fitting[0]++
		} else {
			fitting[1]++
		}
	}
	if fitting[0] < 20 || fitting[1] < 20 {
		t.Errorf("drawn too much of one kind: %v", fitting)
	}
}

// TestP1: whatever is handed in, no call panics.
func TestP1(t *testing.T) {
	odd := []int{math.MinInt, -1, 0, 1, 3, api.End, math.MaxInt}
	for _, a := range odd {
		for _, b := range odd {
			for _, c := range odd {
				x := plot(a, b)
				y := one(c, a, b, c)
				z := plot(8, 13)
				z.Bites[0].Piece, z.Req.From, z.Req.Until, z.Req.Kind = a, b, c, 1+(a&3)
				for _, l := range [][]api.Queue{field(), nil, make([]api.Queue, 2)} {
					for _, books := range [][]api.Book{{x}, {y, x}, {z}, {{}, z}} {
						load.Of(l, books)
						load.Fits(l, books, a)
					}
				}
			}
		}
	}
}

// roomy: the same list, with spare room behind it that is as mark says.
func roomy[T any](l []T, mark T) []T {
	x := append(make([]T, 0, len(l)+5), l...)
	for i := len(l); i < cap(x); i++ {
		x[:cap(x)][i] = mark
	}
	return x
}

// handed: all that can be handed in, with spare room behind each list.
func handed() ([]api.Queue, []api.Book) {
	l := roomy(field(), api.Queue{Name: "mark", Parent: 7})
	for i := range l {
		l[i].Cap = roomy(l[i].Cap, api.Run{At: 7, N: 7})
	}
	b := roomy([]api.Book{plot(8, 13), one(2, 9, 6, 4)}, api.Book{Id: -7})
	for i := range b {
		b[i].Req.Pieces = roomy(b[i].Req.Pieces, api.Piece{Len: 7, N: 7})
		b[i].Bites = roomy(b[i].Bites, api.Bite{Piece: 7, At: 7})
	}
	return l, b
}

// spread: a list, up to its capacity.
func spread[T any](l []T) []T { return l[:cap(l)] }

// same: are these queues and books what handed gives, spare room and all?
func same(l []api.Queue, b []api.Book) bool {
	l1, b1 := handed()
	if !reflect.DeepEqual(spread(l), spread(l1)) || !reflect.DeepEqual(spread(b), spread(b1)) {
		return false
	}
	for i := range l {
		if !slices.Equal(spread(l[i].Cap), spread(l1[i].Cap)) {
			return false
		}
	}
	for i := range b {
		if !slices.Equal(spread(b[i].Req.Pieces), spread(b1[i].Req.Pieces)) || !slices.Equal(spread(b[i].Bites), spread(b1[i].Bites)) {
			return false
		}
	}
	return true
}

// TestP2: what is handed in is only read; an answer shares nothing with it, nor its lists with one another.
func TestP2(t *testing.T) {
	l, b := handed()
	kept, _ := load.Of(l, b)
	load.Fits(l, b, 5)
	if !same(l, b) {
		t.Errorf("what was handed in has changed: %v %v", l, b)
	}
	want, _ := load.Of(field(), []api.Book{plot(8, 13), one(2, 9, 6, 4)})
	for i := range l {
		l[i].Cap[0] = api.Run{At: 5, N: 5}
	}
	b[0].Bites[0].At, b[0].Req.Pieces[0].N = 20, 20
	if !reflect.DeepEqual(kept, want) {
		t.Errorf("the answer was changed by way of what was handed in: %v", kept)
	}
	for _, books := range [][]api.Book{nil, {plot(8, 13)}, {plot(8, 13), one(2, 9, 6, 4)}} {
		first, _ := load.Of(field(), books)
		for q := range first {
			fresh, _ := load.Of(field(), books)
			second, _ := load.Of(field(), books)
			for i := range spread(second[q]) {
				spread(second[q])[i] = api.Run{At: -1, N: -1}
			}
			second[q] = fresh[q]
			if !reflect.DeepEqual(second, first) {
				t.Errorf("list %d shares memory with another one: %v", q, second)
			}
		}
	}
}

// TestP3: the same question has the same answer, whatever was asked between.
func TestP3(t *testing.T) {
	b := []api.Book{plot(8, 10), one(2, 9, 6, 4)}
	first, e := load.Of(field(), b)
	is, f := load.Fits(field(), b, 5)
	for _, x := range wrong() {
		load.Of(x.l, x.b)
		load.Fits(x.l, x.b, 3)
	}
	again, e1 := load.Of(field(), b)
	is1, f1 := load.Fits(field(), b, 5)
	if !reflect.DeepEqual(first, again) || e != e1 || is != is1 || f != f1 {
		t.Errorf("first %v %d %v %d, then %v %d %v %d", first, e, is, f, again, e1, is1, f1)
	}
}

// TestP4: what is far more than it may be has its answer, too.
func TestP4(t *testing.T) {
	if got, e := load.Of(field(), make([]api.Book, 1<<18)); len(got) != 0 || e != api.ErrMany {
		t.Errorf("many books: %v %d", got, e)
	}
	b := plot(8, 13)
	b.Bites = make([]api.Bite, 1<<20)
	if got, e := load.Of(field(), []api.Book{b}); len(got) != 0 || e != api.ErrForm {
		t.Errorf("many bites: %v %d", got, e)
	}
	b = plot(8, 13)
	b.Req.Pieces = make([]api.Piece, 1<<20)
	if is, e := load.Fits(field(), []api.Book{b}, 0); is || e != api.ErrMany {
		t.Errorf("many pieces: %v %d", is, e)
	}
}
