package place_test

import (
	"math"
	"reflect"
	"slices"
	"testing"

	"acreage/api"
	"acreage/place"
	"acreage/req"
)

// rs: runs from At and N in turn.
func rs(n ...int) []api.Run {
	f := []api.Run{}
	for i := 0; i+1 < len(n); i += 2 {
		f = append(f, api.Run{At: n[i], N: n[i+1]})
	}
	return f
}

// bs: bites from Piece and At in turn.
func bs(n ...int) []api.Bite {
	b := []api.Bite{}
	for i := 0; i+1 < len(n); i += 2 {
		b = append(b, api.Bite{Piece: n[i], At: n[i+1]})
	}
	return b
}

// ask: a request of pieces, from Len and N in turn.
func ask(kind, from, until int, n ...int) api.Request {
	r := api.Request{Kind: kind, From: from, Until: until}
	for i := 0; i+1 < len(n); i += 2 {
		r.Pieces = append(r.Pieces, api.Piece{Len: n[i], N: n[i+1]})
	}
	return r
}

// plot: a request for two pieces.
func plot(kind int) api.Request { return ask(kind, 2, 30, 4, 3, 5, 6) }

// sought: room, a request, and the place that must be found (nil: none).
type sought struct {
	name string
	f    []api.Run
	r    api.Request
	want []api.Bite
}

// seek: is all found as it must be?
func seek(t *testing.T, rows []sought) {
	t.Helper()
	for _, x := range rows {
		b, is, e := place.Find(x.f, x.r)
		if e != api.OK || is != (x.want != nil) || !slices.Equal(b, x.want) {
			t.Errorf("%s: %v %v %d, not %v", x.name, b, is, e, x.want)
		}
	}
}

// TestF1Any: the first piece that has a place, though another one has a sooner place.
func TestF1Any(t *testing.T) {
	seek(t, []sought{
		{"both have room", rs(0, 9), plot(api.Any), bs(0, 2)},
		{"just enough", rs(0, 3), plot(api.Any), bs(0, 2)},
		{"too little for both", rs(0, 2), plot(api.Any), nil},
		{"the first one later", rs(0, 2, 20, 3), ask(api.Any, 2, 30, 4, 3, 1, 1), bs(0, 20)},
		{"the second one alone", rs(0, 3), ask(api.Any, 2, 30, 4, 4, 5, 3), bs(1, 2)},
		{"the third one alone", rs(0, 9), ask(api.Any, 5, 8, 4, 1, 5, 1, 3, 9), bs(2, 5)},
		{"as late as can be", rs(0, 0, 26, 3), plot(api.Any), bs(0, 26)},
		{"later than can be", rs(0, 0, 27, 3), plot(api.Any), nil},
		{"over before From", rs(0, 9, 5, 0), plot(api.Any), nil},
		{"the last time", rs(0, 0, 47, 1), ask(api.Any, 0, 48, 1, 1), bs(0, 47)},
		{"the greatest piece", rs(0, 0, 24, 50), ask(api.Any, 0, 48, 24, 50), bs(0, 24)},
		{"too great a piece", rs(0, 0, 25, 50), ask(api.Any, 0, 48, 24, 50), nil},
	})
}

// TestF1All: each piece by itself, in what the ones ahead have left; none of them moves for one behind it.
func TestF1All(t *testing.T) {
	seek(t, []sought{
		{"side by side", rs(0, 9), plot(api.All), bs(0, 2, 1, 2)},
		{"one too few", rs(0, 8), plot(api.All), bs(0, 2, 1, 6)},
		{"the second one sooner", rs(0, 2, 12, 9), ask(api.All, 2, 30, 3, 5, 4, 1), bs(0, 12, 1, 2)},
		{"the second one has none", rs(0, 5), plot(api.All), nil},
		{"the first one has none", rs(0, 5), ask(api.All, 2, 30, 5, 6, 4, 3), nil},
		{"the third one has none", rs(0, 9), ask(api.All, 2, 6, 4, 3, 4, 6, 1, 1), nil},
		{"three at once", rs(0, 9), ask(api.All, 2, 6, 4, 3, 4, 5, 4, 1), bs(0, 2, 1, 2, 2, 2)},
		{"three, the last behind both", rs(0, 9), ask(api.All, 2, 11, 4, 3, 5, 6, 4, 1), bs(0, 2, 1, 2, 2, 6)},
		{"the third one where the first was", rs(0, 4), ask(api.All, 0, 10, 2, 4, 3, 4, 5, 1), bs(0, 0, 1, 2, 2, 5)},
		{"the first one does not give way", rs(0, 6, 3, 1), ask(api.All, 0, 4, 1, 1, 3, 6), nil},
		{"the other way round there is a place", rs(0, 6, 3, 1), ask(api.All, 0, 4, 3, 6, 1, 1), bs(0, 0, 1, 3)},
		{"below 0 before", rs(0, -5, 7, 9), plot(api.All), bs(0, 7, 1, 7)},
		{"all that can be", rs(0, api.MaxNum), ask(api.All, 0, 48, 24, 50, 24, 50, 24, 50), bs(0, 0, 1, 0, 2, 0)},
		{"as little as can be", rs(0, -api.MaxNum), plot(api.All), nil},
	})
}

// TestF1Order: each piece as soon as can be, when the one ahead is over.
func TestF1Order(t *testing.T) {
	seek(t, []sought{
		{"one behind the other", rs(0, 9), plot(api.Order), bs(0, 2, 1, 6)},
		{"at 2 and at 15", rs(0, 8, 8, 2, 15, 8), plot(api.Order), bs(0, 2, 1, 15)},
		{"room for the second alone before", rs(0, 0, 2, 2, 10, 9, 14, 2, 20, 3), ask(api.Order, 2, 30, 4, 3, 5, 2), bs(0, 10, 1, 14)},
		{"the second one too soon", rs(0, 9, 8, 3, 20, 2), ask(api.Order, 7, 30, 4, 3, 1, 9), nil},
		{"three", rs(0, 1, 5, 2, 10, 3), ask(api.Order, 0, 48, 2, 1, 2, 2, 2, 3), bs(0, 0, 1, 5, 2, 10)},
		{"three, of less and less", rs(0, 3, 5, 2, 10, 1), ask(api.Order, 0, 48, 2, 3, 2, 2, 2, 1), bs(0, 0, 1, 2, 2, 4)},
		{"just over by Until", rs(0, 9), ask(api.Order, 2, 11, 4, 3, 5, 6), bs(0, 2, 1, 6)},
		{"not over by Until", rs(0, 9), ask(api.Order, 2, 10, 4, 3, 5, 6), nil},
		{"the first one is over at Until", rs(0, 9), ask(api.Order, 2, 6, 4, 3, 1, 1), nil},
		{"the first one is over at End", rs(0, 9), ask(api.Order, 24, 48, 24, 1, 1, 1), nil},
		{"up to End", rs(0, 9), ask(api.Order, 0, 48, 24, 1, 23, 1, 1, 1), bs(0, 0, 1, 24, 2, 47)},
		{"beyond End", rs(0, 9), ask(api.Order, 0, 48, 24, 1, 24, 1, 1, 1), nil},
		{"the second one has none", rs(0, 5), plot(api.Order), nil},
		{"the first one has none", rs(0, 2, 26, 3), ask(api.Order, 2, 29, 4, 3, 1, 1), nil},
		{"with room for one alone, twice", rs(0, 3), ask(api.Order, 0, 8, 4, 3, 4, 3), bs(0, 0, 1, 4)},
	})
}

// TestF1Tight: without a gap, as soon as all of them have room so.
func TestF1Tight(t *testing.T) {
	seek(t, []sought{
		{"one behind the other", rs(0, 9), plot(api.Tight), bs(0, 2, 1, 6)},
		{"from 15 on", rs(0, 8, 8, 2, 15, 8), plot(api.Tight), bs(0, 15, 1, 19)},
		{"the first one waits for the second", rs(0, 3, 25, 6), plot(api.Tight), bs(0, 21, 1, 25)},
		{"the second one comes too late", rs(0, 3, 26, 6), plot(api.Tight), nil},
		{"room for each, with a gap", rs(0, 3, 6, 0, 8, 6, 13, 0), ask(api.Tight, 2, 30, 4, 3, 5, 6), nil},
		{"three", rs(0, 1, 8, 2, 10, 3, 12, 0), ask(api.Tight, 0, 48, 2, 1, 2, 2, 2, 3), bs(0, 6, 1, 8, 2, 10)},
		{"three, the last has too little", rs(0, 1, 8, 2, 10, 3, 11, 0), ask(api.Tight, 0, 48, 2, 1, 2, 2, 2, 3), nil},
		{"just over by Until", rs(0, 9), ask(api.Tight, 2, 11, 4, 3, 5, 6), bs(0, 2, 1, 6)},
		{"not over by Until", rs(0, 9), ask(api.Tight, 2, 10, 4, 3, 5, 6), nil},
		{"the first one is over at Until", rs(0, 9), ask(api.Tight, 2, 6, 4, 3, 1, 1), nil},
		{"up to End", rs(0, 9), ask(api.Tight, 0, 48, 24, 1, 23, 1, 1, 1), bs(0, 0, 1, 24, 2, 47)},
		{"beyond End", rs(0, 9), ask(api.Tight, 0, 48, 24, 1, 24, 1, 1, 1), nil},
		{"far beyond End", rs(0, 50), ask(api.Tight, 0, 48, 24, 50, 24, 50, 24, 50), nil},
		{"one piece", rs(0, 0, 5, 4), ask(api.Tight, 0, 48, 3, 4), bs(0, 5)},
		{"with room for one alone, twice", rs(0, 0, 3, 3), ask(api.Tight, 0, 11, 4, 3, 4, 3), bs(0, 3, 1, 7)},
	})
}

// turn: what makes a request wrong, and which error it has then.
type turn struct {
	name string
	do   func(r *api.Request)
	e    api.Errno
}

// turns: where several errors apply, the one that is told.
func turns() []turn {
	from := func(a, b int) func(r *api.Request) { return func(r *api.Request) { r.From, r.Until = a, b } }
	kind := func(k int) func(r *api.Request) { return func(r *api.Request) { r.Kind = k } }
	piece := func(i, size, n int) func(r *api.Request) {
		return func(r *api.Request) { r.Pieces[i] = api.Piece{Len: size, N: n} }
	}
	return []turn{
		{"kind, pieces, from", func(r *api.Request) { r.Kind, r.Pieces, r.From = 0, nil, -1 }, api.ErrKind},
		{"pieces, from", func(r *api.Request) { r.Pieces, r.From = nil, -1 }, api.ErrMany},
		{"too many pieces that are none", func(r *api.Request) { r.Pieces = make([]api.Piece, 4) }, api.ErrMany},
		{"kind 0", kind(0), api.ErrKind},
		{"kind 5", kind(5), api.ErrKind},
		{"least kind", kind(math.MinInt), api.ErrKind},
		{"greatest kind", kind(math.MaxInt), api.ErrKind},
		{"no pieces", func(r *api.Request) { r.Pieces = []api.Piece{} }, api.ErrMany},
		{"too many pieces", func(r *api.Request) { r.Pieces = slices.Repeat(r.Pieces, 2) }, api.ErrMany},
		{"From below 0", from(-1, 30), api.ErrRange},
		{"From at Until", from(30, 30), api.ErrRange},
		{"From above Until", from(31, 30), api.ErrRange},
		{"both at End", from(api.End, api.End), api.ErrRange},
		{"Until above End", from(2, api.End+1), api.ErrRange},
		{"least and greatest", from(math.MinInt, math.MaxInt), api.ErrRange},
		{"greatest and least", from(math.MaxInt, math.MinInt), api.ErrRange},
		{"Len 0", piece(0, 0, 3), api.ErrRange},
		{"Len above MaxLen", piece(1, api.MaxLen+1, 3), api.ErrRange},
		{"greatest Len", piece(1, math.MaxInt, 3), api.ErrRange},
		{"N 0", piece(1, 4, 0), api.ErrRange},
		{"N below 0", piece(0, 4, -1), api.ErrRange},
		{"N above MaxCap", piece(1, 4, api.MaxCap+1), api.ErrRange},
		{"least N", piece(0, 4, math.MinInt), api.ErrRange},
	}
}

// noRuns: what is not right.
func noRuns() [][]api.Run {
	return [][]api.Run{nil, {}, rs(1, 5), rs(0, 5, 3, 5), rs(0, 5, 48, 6), rs(0, 5, 9, 6, 9, 7), rs(0, api.MaxNum+1), rs(0, 5, 7, -api.MaxNum-1)}
}

// TestF1Errors: those of runs first, and with an error nothing beside it.
func TestF1Errors(t *testing.T) {
	check := func(name string, f []api.Run, r api.Request, want api.Errno) {
		t.Helper()
		if b, is, e := place.Find(f, r); len(b) != 0 || is || e != want {
			t.Errorf("%s: %v %v %d, not %d", name, b, is, e, want)
		}
	}
	for kind := api.All; kind <= api.Tight; kind++ {
		for _, f := range noRuns() {
			check("no runs", f, plot(kind), api.ErrForm)
		}
		for _, x := range turns() {
			for _, q := range []int{0, 3, -1, math.MaxInt} {
				r := plot(kind)
				x.do(&r)
				r.Queue = q
				check(x.name, rs(0, 9), r, x.e)
				check(x.name, rs(0, 0), r, x.e)
				for _, f := range noRuns() {
					check(x.name+", no runs", f, r, api.ErrForm)
				}
			}
		}
	}
}

// TestF1NoQueues: which queue the request has counts for nothing.
func TestF1NoQueues(t *testing.T) {
	f := rs(0, 8, 8, 2, 15, 8)
	for kind := api.All; kind <= api.Tight; kind++ {
		want, _, _ := place.Find(f, plot(kind))
		for _, q := range []int{0, 3, 4, 99, -1, math.MinInt, math.MaxInt} {
			r := plot(kind)
			r.Queue = q
			if b, is, e := place.Find(f, r); !slices.Equal(b, want) || !is || e != api.OK {
				t.Errorf("kind %d, queue %d: %v %v %d", kind, q, b, is, e)
			}
		}
	}
}

// drawn: numbers, the same each time.
type drawn uint64

func (d *drawn) below(n int) int {
	*d = *d*6364136223846793005 + 1442695040888963407
	return int(uint64(*d) >> 33 % uint64(n))
}

// room that is drawn.
func (d *drawn) room() []api.Run {
	f := rs(0, d.below(8)-1)
	for at := 1; at < api.End; at++ {
		if n := d.below(8) - 1; d.below(3) == 0 && n != f[len(f)-1].N {
			f = append(f, api.Run{At: at, N: n})
		}
	}
	return f
}

// wish that is drawn, of at most that many times.
func (d *drawn) wish(times int) api.Request {
	r := api.Request{Queue: d.below(9), Kind: 1 + d.below(4), From: d.below(api.End)}
	r.Until = r.From + 1 + d.below(min(times, api.End-r.From))
	for range 1 + d.below(api.MaxPieces) {
		r.Pieces = append(r.Pieces, api.Piece{Len: 1 + d.below(5), N: 1 + d.below(4)})
	}
	return r
}

// said: what right runs say, time by time.
func said(f []api.Run) [api.End]int {
	var s [api.End]int
	for _, r := range f {
		for t := r.At; t < api.End; t++ {
			s[t] = r.N
		}
	}
	return s
}

// with: is there room for the piece at that time, by until? And what is left then, time by time.
func with(s [api.End]int, p api.Piece, at, until int) ([api.End]int, bool) {
	if at+p.Len > until {
		return s, false
	}
	for i := at; i < at+p.Len; i++ {
		if s[i] -= p.N; s[i] < 0 {
			return s, false
		}
	}
	return s, true
}

// soonest: the least time, from from on, at which the piece has room.
func soonest(s [api.End]int, p api.Piece, from, until int) int {
	for at := from; at < until; at++ {
		if _, is := with(s, p, at, until); is {
			return at
		}
	}
	return -1
}

// plainly: the promise once more, time by time, of a right request (nil: none is found).
func plainly(f []api.Run, r api.Request) []api.Bite {
	s := said(f)
	if r.Kind == api.Tight {
		for at := r.From; at < r.Until; at++ {
			b, next := []api.Bite{}, at
			for i, p := range r.Pieces {
				if _, is := with(s, p, next, r.Until); is {
					b = append(b, api.Bite{Piece: i, At: next})
				}
				next += p.Len
			}
			if len(b) == len(r.Pieces) {
				return b
			}
		}
		return nil
	}
	b, from := []api.Bite{}, r.From
	for i, p := range r.Pieces {
		at := soonest(s, p, from, r.Until)
		switch {
		case at >= 0 && r.Kind == api.Any:
			return bs(i, at)
		case r.Kind == api.Any:
			continue
		case at < 0:
			return nil
		case r.Kind == api.All:
			s, _ = with(s, p, at, r.Until)
		default:
			from = at + p.Len
		}
		b = append(b, api.Bite{Piece: i, At: at})
	}
	if r.Kind == api.Any {
		return nil
	}
	return b
}

// TestF1Drawn: against the promise's own words, time by time.
func TestF1Drawn(t *testing.T) {
	d := drawn(6)
	var count [5][2]int
	for range 20000 {
		f, r := d.room(), d.wish(api.End)
		want := plainly(f, r)
		b, is, e := place.Find(f, r)
		if e != api.OK || is != (want != nil) || !slices.Equal(b, want) {
			t.Fatalf("%v in %v: %v %v %d, not %v", r, f, b, is, e, want)
		}
		if is {
			count[r.Kind][1]++
		} else {
			count[r.Kind][0]++
		}
	}
	for kind := api.All; kind <= api.Tight; kind++ {
		if count[kind][0] < 200 || count[kind][1] < 200 {
			t.Errorf("kind %d: drawn too much of one sort: %v", kind, count[kind])
		}
	}
}

// places: all bites that meet the request and have room, each in turn.
func places(f []api.Run, r api.Request, yield func(b []api.Bite)) {
	var each func(s [api.End]int, i int, b []api.Bite)
	each = func(s [api.End]int, i int, b []api.Bite) {
		if req.Meets(r, b) {
			yield(b)
		}
		for ; i < len(r.Pieces); i++ {
			for at := r.From; at < r.Until; at++ {
				if left, is := with(s, r.Pieces[i], at, r.Until); is {
					each(left, i+1, append(slices.Clone(b), api.Bite{Piece: i, At: at}))
				}
			}
		}
	}
	each(said(f), 0, nil)
}

// TestF2: what is found is one of all places that there are; and of Any, Order and Tight, if there is one, one is found, of Order and Tight with nothing sooner, piece by piece.
func TestF2(t *testing.T) {
	d := drawn(7)
	found, missed := 0, 0
	for range 3000 {
		f, r := d.room(), d.wish(12)
		b, is, e := place.Find(f, r)
		if e != api.OK {
			t.Fatalf("%v in %v: %d", r, f, e)
		}
		among, some := false, false
		places(f, r, func(x []api.Bite) {
			some = true
			among = among || slices.Equal(x, b)
			for i := range b {
				if (r.Kind == api.Order || r.Kind == api.Tight) && x[i].At < b[i].At {
					t.Fatalf("%v in %v: %v, though there is %v", r, f, b, x)
				}
			}
		})
		if is && !among {
			t.Fatalf("%v in %v: %v is no place", r, f, b)
		}
		if !is && some && r.Kind != api.All {
			t.Fatalf("%v in %v: none is found", r, f)
		}
		if is {
			found++
		} else if !some {
			missed++
		}
	}
	if found < 300 || missed < 300 {
		t.Errorf("drawn too much of one sort: %d %d", found, missed)
	}
}

// TestP1: whatever is handed in, no call panics, and with an error or a false there is nothing beside it.
func TestP1(t *testing.T) {
	odd := []int{math.MinInt, -1, 0, 1, 3, api.End, math.MaxInt}
	for _, a := range odd {
		for _, b := range odd {
			for _, c := range odd {
				for kind := -1; kind <= 5; kind++ {
					for _, r := range []api.Request{ask(kind, a, b, c, a), ask(kind, 0, 48, a, b, 1, 1), ask(kind, a, 48, b, 1, 1, c), ask(a, b, c), ask(kind, a, b, 1, 1, 2, 2, 3, 3)} {
						r.Queue = c
						for _, f := range [][]api.Run{nil, rs(0, a), rs(a, b), rs(0, 5, b, c), rs(0, 3, 9, 0)} {
							if x, is, e := place.Find(f, r); (e != api.OK || !is) && (is || len(x) != 0) {
								t.Fatalf("%v in %v: %v %v beside %d", r, f, x, is, e)
							}
						}
					}
				}
			}
		}
	}
}

// roomy: the same list, with spare room behind it that is as mark says.
func roomy[T any](l []T, mark T) []T {
	x := append(make([]T, 0, len(l)+5), l...)
	for i := len(l); i < cap(x); i++ {
		x[:cap(x)][i] = mark
	}
	return x
}

// spread: a list, up to its capacity.
func spread[T any](l []T) []T { return l[:cap(l)] }

// handed: room and a request with spare room behind each list.
func handed(kind int) ([]api.Run, api.Request) {
	r := plot(kind)
	r.Pieces = roomy(r.Pieces, api.Piece{Len: 1, N: 1})
	return roomy(rs(0, 8, 8, 2, 15, 8), api.Run{At: 20, N: 7}), r
}

// TestP2: what is handed in is only read, spare room and all, and an answer is new memory.
func TestP2(t *testing.T) {
	for kind := api.All; kind <= api.Tight; kind++ {
		f, r := handed(kind)
		first, _, _ := place.Find(f, r)
		second, _, _ := place.Find(f, r)
		f1, r1 := handed(kind)
		if !slices.Equal(spread(f), spread(f1)) || !slices.Equal(spread(r.Pieces), spread(r1.Pieces)) {
			t.Errorf("kind %d: what was handed in has changed: %v %v", kind, spread(f), spread(r.Pieces))
		}
		want := slices.Clone(first)
		for i := range spread(second) {
			spread(second)[i] = api.Bite{Piece: -1, At: -1}
		}
		f[0].N, f[1].At, r.Pieces[0].Len = 1, 1, 1
		if !slices.Equal(first, want) {
			t.Errorf("kind %d: the answer has changed: %v, not %v", kind, first, want)
		}
	}
}

// TestP3: the same question has the same answer, whatever was asked between.
func TestP3(t *testing.T) {
	all := func() (out []any) {
		for kind := range 6 {
			for _, f := range [][]api.Run{rs(0, 9), rs(0, 8, 8, 2, 15, 8), rs(0, 2)} {
				b, is, e := place.Find(f, plot(kind))
				out = append(out, b, is, e)
			}
		}
		return out
	}
	first := all()
	for _, x := range turns() {
		r := plot(api.All)
		x.do(&r)
		place.Find(rs(0, 9), r)
		place.Find(nil, r)
	}
	if again := all(); !reflect.DeepEqual(first, again) {
		t.Errorf("first %v, then %v", first, again)
	}
}

// TestP4: what is far more than it may be has its answer, too.
func TestP4(t *testing.T) {
	if b, is, e := place.Find(make([]api.Run, 1<<20), plot(api.All)); len(b) != 0 || is || e != api.ErrForm {
		t.Errorf("many runs: %v %v %d", b, is, e)
	}
	r := plot(api.All)
	r.Pieces = make([]api.Piece, 1<<20)
	if b, is, e := place.Find(rs(0, 9), r); len(b) != 0 || is || e != api.ErrMany {
		t.Errorf("many pieces: %v %v %d", b, is, e)
	}
}
