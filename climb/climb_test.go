package climb_test

import (
	"slices"
	"testing"

	"acreage/api"
	"acreage/climb"
)

// queues with those Parents.
func queues(parents ...int) []api.Queue {
	l := []api.Queue{}
	for _, p := range parents {
		l = append(l, api.Queue{Parent: p})
	}
	return l
}

// TestUp: from a queue to one that has no Parent.
func TestUp(t *testing.T) {
	for _, x := range []struct {
		l    []api.Queue
		q    int
		want []int
	}{
		{queues(-1), 0, []int{0}},
		{queues(-1, 0, 0, 1), 3, []int{3, 1, 0}},
		{queues(-1, 0, 0, 1), 2, []int{2, 0}},
		{queues(-1, -1, 1), 2, []int{2, 1}},
		{queues(-1, 0, 1, 2, 3), 4, []int{4, 3, 2, 1, 0}},
	} {
		if got := slices.Collect(climb.Up(x.l, x.q)); !slices.Equal(got, x.want) {
			t.Errorf("from %d: %v, not %v", x.q, got, x.want)
		}
	}
}

// TestUpLeft: who has seen enough may leave, and begin anew.
func TestUpLeft(t *testing.T) {
	line := climb.Up(queues(-1, 0, 1), 2)
	for range 2 {
		var seen []int
		for q := range line {
			seen = append(seen, q)
			if q == 1 {
				break
			}
		}
		if !slices.Equal(seen, []int{2, 1}) {
			t.Errorf("seen: %v", seen)
		}
	}
}
