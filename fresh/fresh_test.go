package fresh_test

import (
	"reflect"
	"testing"

	"acreage/api"
	"acreage/fresh"
)

// farm: a state with a list of each sort.
func farm() api.State {
	return api.State{
		Clock: 5, Next: 6,
		Tree:  []api.Queue{{Name: "all", Parent: -1, Cap: []api.Run{{At: 0, N: 10}}}, {Name: "north", Parent: 0, Cap: []api.Run{{At: 0, N: 8}, {At: 20, N: 4}}}},
		Books: []api.Book{{Id: 1, Req: api.Request{Queue: 1, From: 2, Until: 30, Kind: api.Any, Pieces: []api.Piece{{Len: 4, N: 3}, {Len: 5, N: 6}}}, Bites: []api.Bite{{Piece: 1, At: 13}}}},
	}
}

// spoil writes over what each list of a state has.
func spoil(s api.State) {
	s.Tree[1].Cap[1].N = -9
	s.Books[0].Req.Pieces[1].N = -9
	s.Books[0].Bites[0].At = -9
	s.Tree[0].Name = "spoilt"
	s.Books[0].Id = -9
}

// TestState: it says the same, and goes on saying it, whatever becomes of what was copied.
func TestState(t *testing.T) {
	s := farm()
	x := fresh.State(s)
	spoil(s)
	if !reflect.DeepEqual(x, farm()) {
		t.Errorf("the copy has changed: %v", x)
	}
	s = farm()
	spoil(fresh.State(s))
	if !reflect.DeepEqual(s, farm()) {
		t.Errorf("what was copied has changed: %v", s)
	}
	if x := fresh.State(api.State{Clock: 3}); x.Clock != 3 || len(x.Tree) != 0 || len(x.Books) != 0 {
		t.Errorf("of no lists: %v", x)
	}
}

// TestParts: the same of queues and requests by themselves.
func TestParts(t *testing.T) {
	s := farm()
	l, r := fresh.Queues(s.Tree), fresh.Request(s.Books[0].Req)
	spoil(s)
	if !reflect.DeepEqual(l, farm().Tree) || !reflect.DeepEqual(r, farm().Books[0].Req) {
		t.Errorf("the copies have changed: %v %v", l, r)
	}
}
