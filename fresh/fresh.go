// Package fresh makes copies that share no memory with what they are of: what the layers that answer states have in common.
package fresh

import (
	"slices"

	"acreage/api"
)

// Queues is the queues, each Cap too.
func Queues(l []api.Queue) []api.Queue {
	out := slices.Clone(l)
	for i := range out {
		out[i].Cap = slices.Clone(out[i].Cap)
	}
	return out
}

// Request is the request, its pieces too.
func Request(r api.Request) api.Request {
	r.Pieces = slices.Clone(r.Pieces)
	return r
}

// State is the state, its queues and its books too.
func State(s api.State) api.State {
	s.Tree = Queues(s.Tree)
	s.Books = slices.Clone(s.Books)
	for i, b := range s.Books {
		s.Books[i].Req = Request(b.Req)
		s.Books[i].Bites = slices.Clone(b.Bites)
	}
	return s
}
