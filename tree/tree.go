// Package tree: queues: see doc/02-tree.md.
package tree

import (
	"slices"

	"acreage/api"
	"acreage/climb"
	"acreage/runs"
)

// Name: is that a name of a queue?
func Name(s string) bool {
	if len(s) < 1 || len(s) > api.MaxName {
		return false
	}
	for i := range len(s) {
		if s[i] < 'a' || s[i] > 'z' {
			return false
		}
	}
	return true
}

// Check tells the first of the errors of B1 that applies to the queues.
func Check(l []api.Queue) api.Errno {
	switch {
	case len(l) < 1 || len(l) > api.MaxQueues:
		return api.ErrMany
	case slices.ContainsFunc(l, func(q api.Queue) bool { return !Name(q.Name) }):
		return api.ErrName
	case sameName(l):
		return api.ErrThere
	case badParent(l):
		return api.ErrRange
	case slices.ContainsFunc(l, func(q api.Queue) bool { return badCap(q.Cap) }):
		return api.ErrForm
	}
	return api.OK
}

// Line is queue q, its Parent, and so on, to one that has none.
func Line(l []api.Queue, q int) ([]int, api.Errno) {
	if e := checkQueue(l, q); e != api.OK {
		return nil, e
	}
	var line []int
	for p := range climb.Up(l, q) {
		line = append(line, p)
	}
	return line, api.OK
}

// Under tells of each queue whether q stands in its Line.
func Under(l []api.Queue, q int) ([]bool, api.Errno) {
	if e := checkQueue(l, q); e != api.OK {
		return nil, e
	}
	under := make([]bool, len(l))
	for i := range l {
		for p := range climb.Up(l, i) {
			if p == q {
				under[i] = true
				break
			}
		}
	}
	return under, api.OK
}

// checkQueue tells Check's errors, then whether there is a queue q.
func checkQueue(l []api.Queue, q int) api.Errno {
	if e := Check(l); e != api.OK {
		return e
	}
	if q < 0 || q >= len(l) {
		return api.ErrNone
	}
	return api.OK
}

// sameName: have two queues the same name?
func sameName(l []api.Queue) bool {
	seen := map[string]int{}
	for _, q := range l {
		seen[q.Name]++
		if seen[q.Name] > 1 {
			return true
		}
	}
	return false
}

// badParent: is a Parent neither none (-1) nor a queue ahead?
func badParent(l []api.Queue) bool {
	for i, q := range l {
		if q.Parent < -1 || q.Parent >= i {
			return true
		}
	}
	return false
}

// badCap: are these no right runs, or do they say what no queue can have?
func badCap(f []api.Run) bool {
	return runs.Check(f) != api.OK || slices.ContainsFunc(f, func(r api.Run) bool { return r.N < 0 || r.N > api.MaxCap })
}
