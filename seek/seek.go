// Package seek looks for where a request would stand in a state: what the layers that put it there, or tell of it, have in common.
package seek

import (
	"acreage/api"
	"acreage/place"
	"acreage/plan"
	"acreage/req"
	"acreage/room"
)

// Check tells the errors of the state, then those of the request: ErrLate, if it would begin ahead of the Clock, is the last one.
func Check(s api.State, r api.Request) api.Errno {
	if e := plan.Check(s); e != api.OK {
		return e
	}
	if e := req.Check(s.Tree, r); e != api.OK {
		return e
	}
	if r.From < s.Clock {
		return api.ErrLate
	}
	return api.OK
}

// Place is a place for a right request in the room that the state's books leave its queue. (It does not ask whether all fits, nor for the Clock.)
func Place(s api.State, r api.Request) ([]api.Bite, bool) {
	left, e := room.Of(s.Tree, s.Books, r.Queue)
	if e != api.OK {
		return nil, false
	}
	bites, found, _ := place.Find(left, r)
	return bites, found
}
