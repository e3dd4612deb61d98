package pairs_test

import (
	"slices"
	"testing"

	"acreage/api"
	"acreage/pairs"
)

// counter tells 1, 2, 3 and so on, and panics behind most.
func counter(most int) func() int {
	n := 0
	return func() int {
		if n == most {
			panic("no more")
		}
		n++
		return n
	}
}

// TestLists: two numbers each, the first one first.
func TestLists(t *testing.T) {
	if l := pairs.Pieces(2, counter(4)); !slices.Equal(l, []api.Piece{{Len: 1, N: 2}, {Len: 3, N: 4}}) {
		t.Errorf("pieces: %v", l)
	}
	if l := pairs.Runs(3, counter(6)); !slices.Equal(l, []api.Run{{At: 1, N: 2}, {At: 3, N: 4}, {At: 5, N: 6}}) {
		t.Errorf("runs: %v", l)
	}
	if p, r := pairs.Pieces(0, counter(0)), pairs.Runs(0, counter(0)); len(p) != 0 || len(r) != 0 {
		t.Errorf("none: %v %v", p, r)
	}
}

// TestPanic: a panic of next goes through, wherever it comes.
func TestPanic(t *testing.T) {
	for most := range 6 {
		func() {
			defer func() {
				if recover() == nil {
					t.Errorf("%d numbers are not enough", most)
				}
			}()
			pairs.Runs(3, counter(most))
		}()
	}
}
