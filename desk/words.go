package desk

import (
	"errors"
	"strconv"

	"acreage/tree"
)

// maxNumber is the greatest number of six digits, which are the most that a number has.
const maxNumber = 999999

// errLine is what a panic is told: the line is none of those that there are.
var errLine = errors.New("desk: no such line")

// words reads the words of a line, one by one. A line may end too early, or be wrong, at each of them: so a panic, and not an answer, tells it.
type words struct {
	left []string // those that were not read yet
}

// word is the next one.
func (w *words) word() string {
	if len(w.left) == 0 {
		panic(errLine)
	}
	x := w.left[0]
	w.left = w.left[1:]
	return x
}

// name is the next word, which must be a name.
func (w *words) name() string {
	x := w.word()
	if !tree.Name(x) {
		panic(errLine)
	}
	return x
}

// number is what the next word says, which must be a number as it would be given: without sign, and without 0 ahead.
func (w *words) number() int {
	x := w.word()
	n, err := strconv.Atoi(x)
	if err != nil || n < 0 || n > maxNumber || strconv.Itoa(n) != x {
		panic(errLine)
	}
	return n
}

// couples is how many twos of words are left: that must be all of them, from one to most.
func (w *words) couples(most int) int {
	n := len(w.left) / 2
	if len(w.left)%2 != 0 || n < 1 || n > most {
		panic(errLine)
	}
	return n
}

// end: no word may be left.
func (w *words) end() {
	if len(w.left) > 0 {
		panic(errLine)
	}
}
