package req_test

import (
	"math"
	"reflect"
	"slices"
	"testing"

	"acreage/api"
	"acreage/req"
)

// field: the queues of the document's examples.
func field() []api.Queue {
	return []api.Queue{
		{Name: "all", Parent: -1, Cap: []api.Run{{At: 0, N: 10}}},
		{Name: "north", Parent: 0, Cap: []api.Run{{At: 0, N: 8}, {At: 20, N: 4}}},
		{Name: "south", Parent: 0, Cap: []api.Run{{At: 0, N: 6}}},
		{Name: "barn", Parent: 1, Cap: []api.Run{{At: 0, N: 8}}},
	}
}

// plot: a request of the barn, for two pieces.
func plot(kind int) api.Request {
	return api.Request{Queue: 3, From: 2, Until: 30, Kind: kind, Pieces: []api.Piece{{Len: 4, N: 3}, {Len: 5, N: 6}}}
}

// bs: bites from Piece and At in turn.
func bs(n ...int) []api.Bite {
	b := []api.Bite{}
	for i := 0; i+1 < len(n); i += 2 {
		b = append(b, api.Bite{Piece: n[i], At: n[i+1]})
	}
	return b
}

// turn: what makes a request wrong, and which error it has then.
type turn struct {
	name string
	do   func(r *api.Request)
	e    api.Errno
}

// ownTurns: errors that a request has by itself, where several apply, the one that is told.
func ownTurns() []turn {
	from := func(a, b int) func(r *api.Request) { return func(r *api.Request) { r.From, r.Until = a, b } }
	kind := func(k int) func(r *api.Request) { return func(r *api.Request) { r.Kind = k } }
	piece := func(i, size, n int) func(r *api.Request) {
		return func(r *api.Request) { r.Pieces[i] = api.Piece{Len: size, N: n} }
	}
	pieces := func(n int) func(r *api.Request) {
		return func(r *api.Request) { r.Pieces = slices.Repeat([]api.Piece{{Len: 1, N: 1}}, n) }
	}
	return []turn{
		{"kind, pieces, from", func(r *api.Request) { r.Kind, r.Pieces, r.From = 0, nil, -1 }, api.ErrKind},
		{"pieces, from", func(r *api.Request) { r.Pieces, r.From = nil, -1 }, api.ErrMany},
		{"too many pieces that are none", func(r *api.Request) { r.Pieces = make([]api.Piece, 4) }, api.ErrMany},
		{"kind 0", kind(0), api.ErrKind},
		{"kind 5", kind(5), api.ErrKind},
		{"kind -1", kind(-1), api.ErrKind},
		{"least kind", kind(math.MinInt), api.ErrKind},
		{"greatest kind", kind(math.MaxInt), api.ErrKind},
		{"nil pieces", func(r *api.Request) { r.Pieces = nil }, api.ErrMany},
		{"no pieces", pieces(0), api.ErrMany},
		{"too many pieces", pieces(api.MaxPieces + 1), api.ErrMany},
		{"From below 0", from(-1, 30), api.ErrRange},
		{"least From", from(math.MinInt, 30), api.ErrRange},
		{"From at Until", from(30, 30), api.ErrRange},
		{"From above Until", from(31, 30), api.ErrRange},
		{"greatest From", from(math.MaxInt, 30), api.ErrRange},
		{"both at End", from(api.End, api.End), api.ErrRange},
		{"Until above End", from(2, api.End+1), api.ErrRange},
		{"greatest Until", from(2, math.MaxInt), api.ErrRange},
		{"least Until", from(2, math.MinInt), api.ErrRange},
		{"Len 0", piece(0, 0, 3), api.ErrRange},
		{"Len below 0", piece(1, -1, 3), api.ErrRange},
		{"Len above MaxLen", piece(1, api.MaxLen+1, 3), api.ErrRange},
		{"greatest Len", piece(0, math.MaxInt, 3), api.ErrRange},
		{"least Len", piece(0, math.MinInt, 3), api.ErrRange},
		{"N 0", piece(0, 4, 0), api.ErrRange},
		{"N below 0", piece(1, 4, -1), api.ErrRange},
		{"N above MaxCap", piece(1, 4, api.MaxCap+1), api.ErrRange},
		{"greatest N", piece(0, 4, math.MaxInt), api.ErrRange},
		{"least N", piece(0, 4, math.MinInt), api.ErrRange},
	}
}

// TestC1: the errors of a request, by itself.
func TestC1(t *testing.T) {
	for kind := api.All; kind <= api.Tight; kind++ {
		for _, x := range ownTurns() {
			r := plot(kind)
			x.do(&r)
			if e := req.Check(field(), r); e != x.e {
				t.Errorf("%s: %d, not %d", x.name, e, x.e)
			}
		}
	}
}

// TestC1Right: what is right, the edges among it.
func TestC1Right(t *testing.T) {
	for name, r := range edges() {
		for kind := api.All; kind <= api.Tight; kind++ {
			r.Kind = kind
			if e := req.Check(field(), r); e != api.OK {
				t.Errorf("%s, kind %d: %d", name, kind, e)
			}
		}
	}
	for q := range field() {
		r := plot(api.All)
		r.Queue = q
		if e := req.Check(field(), r); e != api.OK {
			t.Errorf("queue %d: %d", q, e)
		}
	}
}

// edges: requests that are just right.
func edges() map[string]api.Request {
	one := func(from, until int, p ...api.Piece) api.Request {
		return api.Request{From: from, Until: until, Pieces: p}
	}
	least, greatest := api.Piece{Len: 1, N: 1}, api.Piece{Len: api.MaxLen, N: api.MaxCap}
	return map[string]api.Request{
		"all times":              one(0, api.End, least),
		"the first time":         one(0, 1, least),
		"the last time":          one(api.End-1, api.End, least),
		"greatest piece":         one(0, api.End, greatest),
		"as many as may be":      one(0, api.End, least, greatest, least),
		"more than can be given": one(5, 6, greatest, greatest, greatest),
	}
}

// TestC1Order: queues ahead of all, and no such queue behind ErrKind and ErrMany, ahead of ErrRange.
func TestC1Order(t *testing.T) {
	badTree := field()
	badTree[3].Name = "all"
	badCap := field()
	badCap[0].Cap = nil
	for _, x := range ownTurns() {
		for _, q := range []int{-1, 4, 5, math.MinInt, math.MaxInt} {
			r := plot(api.Any)
			r.Queue = q
			if e := req.Check(field(), r); e != api.ErrNone {
				t.Errorf("queue %d: %d", q, e)
			}
			x.do(&r)
			want := x.e
			if want == api.ErrRange {
				want = api.ErrNone
			}
			if e := req.Check(field(), r); e != want {
				t.Errorf("queue %d, %s: %d, not %d", q, x.name, e, want)
			}
			for _, bad := range []struct {
				l []api.Queue
				e api.Errno
			}{{nil, api.ErrMany}, {badTree, api.ErrThere}, {badCap, api.ErrForm}, {make([]api.Queue, 6), api.ErrMany}, {make([]api.Queue, 1), api.ErrName}} {
				if e := req.Check(bad.l, r); e != bad.e {
					t.Errorf("%s, of wrong queues: %d, not %d", x.name, e, bad.e)
				}
			}
		}
	}
}

// TestC2Meets: written out, of each kind: all, any, order, tight.
func TestC2Meets(t *testing.T) {
	for _, x := range []struct {
		name string
		b    []api.Bite
		want [4]bool
	}{
		{"none", nil, [4]bool{}},
		{"the first alone", bs(0, 2), [4]bool{false, true, false, false}},
		{"the other alone", bs(1, 2), [4]bool{false, true, false, false}},
		{"one behind the other", bs(0, 2, 1, 6), [4]bool{true, false, true, true}},
		{"with a gap", bs(0, 2, 1, 7), [4]bool{true, false, true, false}},
		{"one over the other", bs(0, 2, 1, 5), [4]bool{true, false, false, false}},
		{"at the same time", bs(0, 2, 1, 2), [4]bool{true, false, false, false}},
		{"at 20 and at 10", bs(0, 20, 1, 10), [4]bool{true, false, false, false}},
		{"Pieces fall", bs(1, 2, 0, 20), [4]bool{}},
		{"one of them twice", bs(0, 2, 0, 6), [4]bool{}},
		{"the other twice", bs(1, 2, 1, 7), [4]bool{}},
		{"one too many", bs(0, 2, 1, 6, 1, 11), [4]bool{}},
		{"one too many, of no piece", bs(0, 2, 1, 6, 2, 11), [4]bool{}},
		{"over by Until", bs(0, 20, 1, 25), [4]bool{true, false, true, false}},
		{"over too late", bs(0, 20, 1, 26), [4]bool{}},
		{"the first over too late", bs(0, 27, 1, 5), [4]bool{}},
		{"the first over by Until", bs(0, 26, 1, 5), [4]bool{true, false, false, false}},
		{"tight, over by Until", bs(0, 21, 1, 25), [4]bool{true, false, true, true}},
		{"tight, over too late", bs(0, 22, 1, 26), [4]bool{}},
		{"alone, over by Until", bs(1, 25), [4]bool{false, true, false, false}},
		{"alone, over too late", bs(1, 26), [4]bool{}},
		{"the shorter one, over by Until", bs(0, 26), [4]bool{false, true, false, false}},
		{"the shorter one, over too late", bs(0, 27), [4]bool{}},
		{"too soon", bs(0, 1, 1, 5), [4]bool{}},
		{"the second too soon", bs(0, 5, 1, 1), [4]bool{}},
		{"alone, too soon", bs(0, 1), [4]bool{}},
		{"no such piece", bs(2, 3), [4]bool{}},
		{"below the first piece", bs(-1, 3), [4]bool{}},
		{"greatest At", bs(0, math.MaxInt), [4]bool{}},
		{"least At", bs(0, math.MinInt), [4]bool{}},
		{"greatest At behind", bs(0, 2, 1, math.MaxInt), [4]bool{}},
		{"least Piece", bs(math.MinInt, 2), [4]bool{}},
		{"greatest Piece", bs(0, 2, math.MaxInt, 6), [4]bool{}},
	} {
		for i, want := range x.want {
			if got := req.Meets(plot(api.All+i), x.b); got != want {
				t.Errorf("%s, kind %d: %v", x.name, api.All+i, got)
			}
		}
	}
}

// TestC2Wrong: a wrong request is not met, and is never over; which queue it has counts for nothing.
func TestC2Wrong(t *testing.T) {
	for kind := api.All; kind <= api.Tight; kind++ {
		b := bs(0, 2, 1, 6)
		if kind == api.Any {
			b = bs(0, 2)
		}
		for _, q := range []int{0, 3, 4, -1, math.MinInt, math.MaxInt} {
			r := plot(kind)
			r.Queue = q
			if !req.Meets(r, b) {
				t.Errorf("kind %d, queue %d: not met", kind, q)
			}
			if _, e := req.Over(r, b); e != api.OK {
				t.Errorf("kind %d, queue %d: %d", kind, q, e)
			}
		}
		for _, x := range ownTurns() {
			r := plot(kind)
			x.do(&r)
			for _, bites := range [][]api.Bite{nil, b, bs(0, 2), bs(0, 2, 1, 3, 2, 4, 3, 5)} {
				if req.Meets(r, bites) {
					t.Errorf("%s: met by %v", x.name, bites)
				}
				if n, e := req.Over(r, bites); n != 0 || e != api.ErrForm {
					t.Errorf("%s: over at %d, %d", x.name, n, e)
				}
			}
		}
	}
}

// TestC2Over: bites need not meet the request; At may be End.
func TestC2Over(t *testing.T) {
	for kind := api.All; kind <= api.Tight; kind++ {
		for _, x := range []struct {
			b []api.Bite
			n int
			e api.Errno
		}{
			{bs(0, 8, 1, 13), 18, api.OK},
			{bs(1, 13, 0, 8), 18, api.OK},
			{bs(0, 20, 1, 2), 24, api.OK},
			{bs(0, 0), 4, api.OK},
			{bs(1, 0), 5, api.OK},
			{bs(0, 3, 1, 2), 7, api.OK},
			{bs(0, 2, 0, 9, 0, 5), 13, api.OK},
			{bs(0, api.End), api.End + 4, api.OK},
			{bs(1, api.End-1), api.End + 4, api.OK},
			{nil, 0, api.ErrForm},
			{bs(), 0, api.ErrForm},
			{bs(0, -1), 0, api.ErrForm},
			{bs(0, api.End+1), 0, api.ErrForm},
			{bs(0, 5, 1, api.End+1), 0, api.ErrForm},
			{bs(0, 5, 1, -1), 0, api.ErrForm},
			{bs(2, 5), 0, api.ErrForm},
			{bs(-1, 5), 0, api.ErrForm},
			{bs(0, 5, 2, 5), 0, api.ErrForm},
			{bs(0, 5, -1, 5), 0, api.ErrForm},
			{bs(0, math.MaxInt), 0, api.ErrForm},
			{bs(0, math.MinInt), 0, api.ErrForm},
			{bs(math.MinInt, 5), 0, api.ErrForm},
			{bs(math.MaxInt, 5), 0, api.ErrForm},
		} {
			if n, e := req.Over(plot(kind), x.b); n != x.n || e != x.e {
				t.Errorf("Over of %v: %d %d, not %d %d", x.b, n, e, x.n, x.e)
			}
		}
	}
}

// plainlyMeets: the promise once more, each of its sentences by itself, of a right request.
func plainlyMeets(r api.Request, b []api.Bite) bool {
	count := make([]int, len(r.Pieces))
	for i, x := range b {
		if x.Piece < 0 || x.Piece >= len(r.Pieces) || x.At < r.From || x.At+r.Pieces[x.Piece].Len > r.Until {
			return false
		}
		count[x.Piece]++
		if i > 0 && b[i-1].Piece >= x.Piece {
			return false
		}
	}
	if r.Kind == api.Any {
		return len(b) == 1
	}
	for _, n := range count {
		if n != 1 {
			return false
		}
	}
	for i := 1; i < len(b); i++ {
		gap := b[i].At - b[i-1].At - r.Pieces[b[i-1].Piece].Len
		if r.Kind == api.Order && gap < 0 || r.Kind == api.Tight && gap != 0 {
			return false
		}
	}
	return true
}

// TestC2All: all bites of a small request, against the promise's own words.
func TestC2All(t *testing.T) {
	met := 0
	pieces := []api.Piece{{Len: 1, N: 1}, {Len: 2, N: 1}, {Len: 1, N: 1}}
	for kind := api.All; kind <= api.Tight; kind++ {
		for n := 1; n <= len(pieces); n++ {
			r := api.Request{From: 1, Until: 5, Kind: kind, Pieces: pieces[:n]}
			var each func(b []api.Bite)
			each = func(b []api.Bite) {
				got, want := req.Meets(r, b), plainlyMeets(r, b)
				if got != want {
					t.Fatalf("%v by %v: %v", r, b, got)
				}
				if want {
					met++
				}
				if len(b) == 3 {
					return
				}
				for p := -1; p < 4; p++ {
					for at := range 6 {
						each(append(slices.Clone(b), api.Bite{Piece: p, At: at}))
					}
				}
			}
			each(nil)
		}
	}
	if met < 100 {
		t.Errorf("only %d were met", met)
	}
}

// TestP1: whatever is handed in, no call panics, and with an error there is nothing beside it.
func TestP1(t *testing.T) {
	odd := []int{math.MinInt, -1, 0, 1, 2, 4, api.End, math.MaxInt}
	for _, a := range odd {
		for _, b := range odd {
			for _, c := range odd {
				for _, p := range [][]api.Piece{nil, {{Len: a, N: b}}, {{Len: 1, N: 1}, {Len: c, N: a}}, make([]api.Piece, 9)} {
					r := api.Request{Queue: a, From: b, Until: c, Kind: a, Pieces: p}
					for _, bites := range [][]api.Bite{nil, bs(a, b), bs(0, a, 1, b), bs(c, a, b, c, a, a)} {
						req.Check(field(), r)
						req.Check(nil, r)
						for _, asked := range []api.Request{r, {Queue: a, Until: api.End, Kind: a, Pieces: p}, plot(a), plot(api.Tight)} {
							req.Meets(asked, bites)
							if n, e := req.Over(asked, bites); e != api.OK && n != 0 {
								t.Fatalf("%v %v: %d beside %d", asked, bites, n, e)
							}
						}
					}
				}
			}
		}
	}
}

// calls: every call of the package, as one list of answers.
func calls(l []api.Queue, r api.Request, b []api.Bite) []any {
	n, e := req.Over(r, b)
	return []any{req.Check(l, r), req.Meets(r, b), n, e}
}

// roomy: the same list, with spare room behind it that is as mark says.
func roomy[T any](l []T, mark T) []T {
	x := append(make([]T, 0, len(l)+5), l...)
	for i := len(l); i < cap(x); i++ {
		x[:cap(x)][i] = mark
	}
	return x
}

// handed: all that can be handed in, spare room and all.
func handed() ([]api.Queue, api.Request, []api.Bite) {
	l, r := roomy(field(), api.Queue{Name: "mark", Parent: 7}), plot(api.Order)
	for i := range l {
		l[i].Cap = roomy(l[i].Cap, api.Run{At: 7, N: 7})
	}
	r.Pieces = roomy(r.Pieces, api.Piece{Len: -7, N: -7})
	return l, r, roomy(bs(0, 8, 1, 13), api.Bite{Piece: -7, At: -7})
}

// TestP2: what is handed in is only read, and its spare room is not even read.
func TestP2(t *testing.T) {
	l, r, b := handed()
	got := calls(l, r, b)
	if want := []any{api.OK, true, 18, api.OK}; !reflect.DeepEqual(got, want) {
		t.Errorf("%v, not %v", got, want)
	}
	l1, r1, b1 := handed()
	if !reflect.DeepEqual(l[:cap(l)], l1[:cap(l1)]) || !slices.Equal(r.Pieces[:cap(r.Pieces)], r1.Pieces[:cap(r1.Pieces)]) || !slices.Equal(b[:cap(b)], b1[:cap(b1)]) {
		t.Errorf("what was handed in has changed")
	}
	for i := range l {
		if c, c1 := l[i].Cap, l1[i].Cap; !slices.Equal(c[:cap(c)], c1[:cap(c1)]) {
			t.Errorf("a Cap has changed: %v", c[:cap(c)])
		}
	}
}

// TestP3: the same question has the same answer, whatever was asked between.
func TestP3(t *testing.T) {
	first := calls(field(), plot(api.Order), bs(0, 8, 1, 13))
	for _, x := range ownTurns() {
		r := plot(api.Any)
		x.do(&r)
		calls(field(), r, bs(0, 8))
		calls(nil, r, nil)
	}
	if again := calls(field(), plot(api.Order), bs(0, 8, 1, 13)); !reflect.DeepEqual(first, again) {
		t.Errorf("first %v, then %v", first, again)
	}
}

// TestP4: what is far more than it may be has its answer, too.
func TestP4(t *testing.T) {
	r := plot(api.All)
	r.Pieces = make([]api.Piece, 1<<20)
	if e := req.Check(field(), r); e != api.ErrMany {
		t.Errorf("many pieces: %d", e)
	}
	b := slices.Repeat(bs(0, 8), 1<<20)
	b[len(b)-1].At = 40
	for kind := api.All; kind <= api.Tight; kind++ {
		if req.Meets(plot(kind), b) {
			t.Errorf("kind %d is met by many bites", kind)
		}
		if n, e := req.Over(plot(kind), b); n != 44 || e != api.OK {
			t.Errorf("many bites are over at %d, %d", n, e)
		}
	}
}
