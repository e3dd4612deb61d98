package log

import (
	"math"

	"acreage/api"
)

// writer has the bytes that were put by now.
type writer struct {
	bytes []byte
	wide  bool // a number was none that a byte holds: what was put is worth nothing
}

// put puts numbers, a byte each.
func (w *writer) put(n ...int) {
	for _, x := range n {
		w.wide = w.wide || x < 0 || x > math.MaxUint8
		w.bytes = append(w.bytes, byte(x))
	}
}

// putList puts how many things are listed, and the numbers of each.
func putList[T any](w *writer, l []T) {
	w.put(len(l))
	for _, x := range l {
		// A list may be of any length: nothing more is put in vain.
		if w.wide {
			return
		}
		w.put(numbers(x)...)
	}
}

// numbers is the two numbers of something that is listed.
func numbers(x any) []int {
	switch x := x.(type) {
	case api.Piece:
		return []int{x.Len, x.N}
	case api.Run:
		return []int{x.At, x.N}
	}
	return nil
}
