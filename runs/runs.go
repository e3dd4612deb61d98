// Package runs: runs: see doc/01-runs.md.
package runs

import "acreage/api"

// Check tells ErrForm, unless the runs are right.
func Check(f []api.Run) api.Errno {
	if len(f) == 0 || f[0].At != 0 {
		return api.ErrForm
	}
	for i, r := range f {
		if r.At >= api.End || !bounded(r.N) {
			return api.ErrForm
		}
		if i > 0 && (r.At <= f[i-1].At || r.N == f[i-1].N) {
			return api.ErrForm
		}
	}
	return api.OK
}

// Value is what the runs say at t.
func Value(f []api.Run, t int) (int, api.Errno) {
	if e := Check(f); e != api.OK {
		return 0, e
	}
	if t < 0 || t >= api.End {
		return 0, api.ErrRange
	}
	return f[reach(f, 0, t)].N, api.OK
}

// Plus is the sum of both, at each time.
func Plus(f, g []api.Run) ([]api.Run, api.Errno) {
	if e := checkBoth(f, g); e != api.OK {
		return nil, e
	}
	return lay(f, g, func(x, y int) int { return x + y })
}

// Minus is f less g, at each time.
func Minus(f, g []api.Run) ([]api.Run, api.Errno) {
	if e := checkBoth(f, g); e != api.OK {
		return nil, e
	}
	return lay(f, g, func(x, y int) int { return x - y })
}

// Lesser is the lesser of both, at each time.
func Lesser(f, g []api.Run) ([]api.Run, api.Errno) {
	if e := checkBoth(f, g); e != api.OK {
		return nil, e
	}
	return lay(f, g, func(x, y int) int { return min(x, y) })
}

// Bump is n more than f at each time from a to b.
func Bump(f []api.Run, a, b, n int) ([]api.Run, api.Errno) {
	if e := Check(f); e != api.OK {
		return nil, e
	}
	if !span(a, b) || !bounded(n) {
		return nil, api.ErrRange
	}
	// These may not be right (n or a may be 0, b may be End): lay bears that, Plus would not.
	more := []api.Run{{At: 0, N: 0}, {At: a, N: n}, {At: b, N: 0}}
	return lay(f, more, func(x, y int) int { return x + y })
}

// Least is the least that f says from a to b.
func Least(f []api.Run, a, b int) (int, api.Errno) {
	if e := Check(f); e != api.OK {
		return 0, e
	}
	if !span(a, b) {
		return 0, api.ErrRange
	}
	i := reach(f, 0, a)
	least := f[i].N
	for _, r := range f[i+1:] {
		if r.At < b {
			least = min(least, r.N)
		}
	}
	return least, api.OK
}

// bounded: may runs say that number?
func bounded(n int) bool { return -api.MaxNum <= n && n <= api.MaxNum }

// span: are there times from a to b, and are all of them such as runs speak of?
func span(a, b int) bool { return 0 <= a && a < b && b <= api.End }

func checkBoth(f, g []api.Run) api.Errno {
	if e := Check(f); e != api.OK {
		return e
	}
	return Check(g)
}

// reach goes on from run i to the last one that has begun at t.
func reach(f []api.Run, i, t int) int {
	for i+1 < len(f) && f[i+1].At <= t {
		i++
	}
	return i
}

// lay lays two runs together: at each time it says what join makes of what both say. Both must begin at 0, and no At may be below the one ahead.
func lay(f, g []api.Run, join func(x, y int) int) ([]api.Run, api.Errno) {
	var out []api.Run
	i, j := 0, 0
	for t := range api.End {
		i, j = reach(f, i, t), reach(g, j, t)
		n := join(f[i].N, g[j].N)
		if !bounded(n) {
			return nil, api.ErrMany
		}
		// A new run only where the number changes, else what comes out would not be right.
		if len(out) == 0 || out[len(out)-1].N != n {
			out = append(out, api.Run{At: t, N: n})
		}
	}
	return out, api.OK
}
