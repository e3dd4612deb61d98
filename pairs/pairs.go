// Package pairs reads lists in which each thing is two numbers: what the log and the desk have in common.
package pairs

import "acreage/api"

// Pieces reads n pieces. Each number is what next tells; if it panics, nothing is read.
func Pieces(n int, next func() int) []api.Piece {
	return list(n, next, func(a, b int) api.Piece { return api.Piece{Len: a, N: b} })
}

// Runs reads n runs, likewise.
func Runs(n int, next func() int) []api.Run {
	return list(n, next, func(a, b int) api.Run { return api.Run{At: a, N: b} })
}

// list reads n things, each of them made of two numbers by join.
func list[T any](n int, next func() int, join func(a, b int) T) []T {
	var l []T
	for range n {
		a := next()
		b := next()
		l = append(l, join(a, b))
	}
	return l
}
