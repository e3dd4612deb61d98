package seek_test

import (
	"slices"
	"testing"

	"acreage/api"
	"acreage/seek"
)

// farm: two queues at 5, the first above the second; 6 of the second are taken from 8 to 12.
func farm() api.State {
	r := api.Request{Queue: 1, From: 2, Until: 30, Kind: api.Any, Pieces: []api.Piece{{Len: 4, N: 6}}}
	return api.State{
		Clock: 5, Next: 6,
		Tree:  []api.Queue{{Name: "all", Parent: -1, Cap: []api.Run{{At: 0, N: 7}}}, {Name: "north", Parent: 0, Cap: []api.Run{{At: 0, N: 8}, {At: 20, N: 4}}}},
		Books: []api.Book{{Id: 1, Req: r, Bites: []api.Bite{{Piece: 0, At: 8}}}},
	}
}

// want: a request of one piece.
func want(q, from, until, size, n int) api.Request {
	return api.Request{Queue: q, From: from, Until: until, Kind: api.All, Pieces: []api.Piece{{Len: size, N: n}}}
}

// TestCheck: the state's errors, the request's, ErrLate, in that order.
func TestCheck(t *testing.T) {
	sum, late := farm(), farm()
	sum.Tree[0].Cap[0].N = 5
	late.Clock = 12
	for _, x := range []struct {
		name string
		s    api.State
		r    api.Request
		e    api.Errno
	}{
		{"right", farm(), want(1, 5, 48, 1, 1), api.OK},
		{"right, though there is no place", farm(), want(1, 5, 48, 24, 50), api.OK},
		{"the state, the request", sum, api.Request{}, api.ErrSum},
		{"the state, late", late, want(1, 4, 48, 1, 1), api.ErrLate},
		{"the state, no such queue", late, want(2, 12, 48, 1, 1), api.ErrLate},
		{"no state", api.State{}, want(1, 4, 48, 1, 1), api.ErrMany},
		{"no such queue, late", farm(), want(2, 4, 48, 1, 1), api.ErrNone},
		{"range, late", farm(), want(1, 4, 49, 1, 1), api.ErrRange},
		{"late", farm(), want(1, 4, 48, 1, 1), api.ErrLate},
	} {
		if e := seek.Check(x.s, x.r); e != x.e {
			t.Errorf("%s: %d, not %d", x.name, e, x.e)
		}
	}
}

// TestPlace: in the room of the request's queue; what is wrong has none.
func TestPlace(t *testing.T) {
	for _, x := range []struct {
		name string
		r    api.Request
		at   int // -1: none
	}{
		{"as soon as may be", want(1, 5, 48, 3, 7), 5},
		{"behind the book", want(1, 6, 48, 3, 7), 12},
		{"beside the book", want(1, 6, 48, 3, 1), 6},
		{"the one above has less", want(1, 5, 48, 1, 8), -1},
		{"not over by Until", want(1, 6, 14, 3, 7), -1},
		{"below Clock", want(1, 2, 48, 3, 7), 2},
		{"no such queue", want(2, 5, 48, 3, 7), -1},
		{"no such times", want(1, 9, 9, 3, 7), -1},
	} {
		b, is := seek.Place(farm(), x.r)
		if is != (x.at >= 0) || is && !slices.Equal(b, []api.Bite{{Piece: 0, At: x.at}}) || !is && len(b) != 0 {
			t.Errorf("%s: %v %v, not %d", x.name, b, is, x.at)
		}
	}
}
