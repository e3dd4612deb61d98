// Package climb goes up the line of a queue: what the layers that speak of lines have in common.
package climb

import (
	"iter"

	"acreage/api"
)

// Up goes from queue q to its Parent, and so on, to one that has none. There must be a queue q, and the queues must be right: it ends, as in such queues each Parent is less than its queue's own number.
func Up(l []api.Queue, q int) iter.Seq[int] {
	return func(yield func(int) bool) {
		for p := q; p >= 0; p = l[p].Parent {
			if !yield(p) {
				return
			}
		}
	}
}
