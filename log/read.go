package log

import (
	"errors"

	"acreage/api"
	"acreage/pairs"
)

// errNone is what a panic is told: there is no act here.
var errNone = errors.New("log: there is no act here")

// reader goes through a text.
type reader struct {
	text string
	at   int // how many bytes were read
}

// act is the act that the text goes on with; false, if there is none (then the reader may stand anywhere).
func (r *reader) act() (x api.Act, is bool) {
	defer func() {
		// What was read of the act by then counts for nothing.
		if recover() != nil {
			x, is = api.Act{}, false
		}
	}()
	x.Kind = r.number()
	x.N = r.number()
	x.Req.Queue = r.number()
	x.Req.From = r.number()
	x.Req.Until = r.number()
	x.Req.Kind = r.number()
	x.Req.Pieces = pairs.Pieces(r.count(api.MaxPieces), r.number)
	x.Cap = pairs.Runs(r.count(api.End), r.number)
	return x, true
}

// number is the next byte. A text may end at any of them, deep within a list too: so a panic, and not an answer, tells it.
func (r *reader) number() int {
	if r.at >= len(r.text) {
		panic(errNone)
	}
	n := int(r.text[r.at])
	r.at++
	return n
}

// count is the next byte, which is a list's: there may be so many at most.
func (r *reader) count(most int) int {
	n := r.number()
	if n > most {
		panic(errNone)
	}
	return n
}
