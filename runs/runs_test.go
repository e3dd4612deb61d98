package runs_test

import (
	"math"
	"reflect"
	"slices"
	"testing"

	"acreage/api"
	"acreage/runs"
)

// rs: runs from At and N in turn.
func rs(n ...int) []api.Run {
	f := []api.Run{}
	for i := 0; i+1 < len(n); i += 2 {
		f = append(f, api.Run{At: n[i], N: n[i+1]})
	}
	return f
}

// wrong: runs that are not right, one for each way of not being so.
func wrong() map[string][]api.Run {
	return map[string][]api.Run{
		"nil":                  nil,
		"none":                 {},
		"first At above 0":     rs(1, 5),
		"first At below 0":     rs(-1, 5),
		"first At below 0, 0":  rs(-1, 5, 0, 6),
		"same At":              rs(0, 1, 5, 2, 5, 3),
		"same first At":        rs(0, 1, 0, 2),
		"At falls":             rs(0, 1, 6, 2, 5, 3),
		"At falls below 0":     rs(0, 1, -3, 2),
		"At is End":            rs(0, 1, api.End, 2),
		"At above End":         rs(0, 1, api.End+1, 2),
		"At greatest":          rs(0, 1, math.MaxInt, 2),
		"first At greatest":    rs(math.MaxInt, 2),
		"first At least":       rs(math.MinInt, 2),
		"same N":               rs(0, 1, 5, 1),
		"same N further on":    rs(0, 1, 5, 2, 9, 2),
		"N above MaxNum":       rs(0, api.MaxNum+1),
		"N below -MaxNum":      rs(0, -api.MaxNum-1),
		"later N above MaxNum": rs(0, 0, 3, api.MaxNum+1),
		"later N below":        rs(0, 0, 3, -api.MaxNum-1),
		"N greatest":           rs(0, math.MaxInt),
		"N least":              rs(0, math.MinInt),
		"last is wrong":        rs(0, 1, 2, 3, 4, 5, 6, 5),
	}
}

// right: runs that are right, the edges among them.
func right() map[string][]api.Run {
	full := []api.Run{}
	for t := range api.End {
		full = append(full, api.Run{At: t, N: t % 2})
	}
	return map[string][]api.Run{
		"one":             rs(0, 5),
		"nought":          rs(0, 0),
		"at End - 1":      rs(0, 1, api.End-1, 2),
		"at 1":            rs(0, 1, 1, 2),
		"MaxNum":          rs(0, api.MaxNum),
		"-MaxNum":         rs(0, -api.MaxNum),
		"both ends":       rs(0, -api.MaxNum, 7, api.MaxNum),
		"back to the N":   rs(0, 3, 5, 4, 6, 3),
		"each time a run": full,
	}
}

// TestA1: Check tells the right ones from the others.
func TestA1(t *testing.T) {
	for name, f := range right() {
		if e := runs.Check(f); e != api.OK {
			t.Errorf("Check of %s: %d", name, e)
		}
	}
	for name, f := range wrong() {
		if e := runs.Check(f); e != api.ErrForm {
			t.Errorf("Check of %s: %d", name, e)
		}
	}
}

// TestA1First: every other call tells Check's error ahead of its own, of f and of g, with nothing beside it.
func TestA1First(t *testing.T) {
	two := map[string]func(f, g []api.Run) ([]api.Run, api.Errno){"Plus": runs.Plus, "Minus": runs.Minus, "Lesser": runs.Lesser}
	for name, f := range wrong() {
		for call, do := range two {
			for _, ok := range right() {
				if h, e := do(f, ok); len(h) != 0 || e != api.ErrForm {
					t.Errorf("%s of f, %s: %v %d", call, name, h, e)
				}
				if h, e := do(ok, f); len(h) != 0 || e != api.ErrForm {
					t.Errorf("%s of g, %s: %v %d", call, name, h, e)
				}
			}
			if h, e := do(f, f); len(h) != 0 || e != api.ErrForm {
				t.Errorf("%s of both, %s: %v %d", call, name, h, e)
			}
		}
		for _, a := range []int{0, -1, api.End, math.MinInt, math.MaxInt} {
			if n, e := runs.Value(f, a); n != 0 || e != api.ErrForm {
				t.Errorf("Value of %s at %d: %d %d", name, a, n, e)
			}
			if n, e := runs.Least(f, a, 5); n != 0 || e != api.ErrForm {
				t.Errorf("Least of %s from %d: %d %d", name, a, n, e)
			}
			if h, e := runs.Bump(f, a, 5, api.MaxNum+1); len(h) != 0 || e != api.ErrForm {
				t.Errorf("Bump of %s from %d: %v %d", name, a, h, e)
			}
		}
	}
}

// TestA2Value: at the edges of runs and of time.
func TestA2Value(t *testing.T) {
	f := rs(0, 5, 10, 8, 47, -2)
	for _, x := range []struct {
		t, n int
		e    api.Errno
	}{
		{0, 5, api.OK}, {9, 5, api.OK}, {10, 8, api.OK}, {11, 8, api.OK}, {46, 8, api.OK}, {47, -2, api.OK},
		{-1, 0, api.ErrRange}, {48, 0, api.ErrRange}, {math.MinInt, 0, api.ErrRange}, {math.MaxInt, 0, api.ErrRange},
	} {
		if n, e := runs.Value(f, x.t); n != x.n || e != x.e {
			t.Errorf("Value at %d: %d %d, not %d %d", x.t, n, e, x.n, x.e)
		}
	}
}

// TestA2Two: the sum, the difference and the lesser, written out.
func TestA2Two(t *testing.T) {
	f, g := rs(0, 5, 10, 8), rs(0, 1, 5, 3, 10, 0, 20, 9)
	for _, x := range []struct {
		name string
		do   func(f, g []api.Run) ([]api.Run, api.Errno)
		f, g []api.Run
		want []api.Run
		e    api.Errno
	}{
		{"Plus", runs.Plus, f, g, rs(0, 6, 5, 8, 20, 17), api.OK},
		{"Minus", runs.Minus, f, g, rs(0, 4, 5, 2, 10, 8, 20, -1), api.OK},
		{"Minus", runs.Minus, g, f, rs(0, -4, 5, -2, 10, -8, 20, 1), api.OK},
		{"Lesser", runs.Lesser, f, g, rs(0, 1, 5, 3, 10, 0, 20, 8), api.OK},
		{"Lesser", runs.Lesser, g, f, rs(0, 1, 5, 3, 10, 0, 20, 8), api.OK},
		{"Minus of itself", runs.Minus, f, f, rs(0, 0), api.OK},
		{"Plus up to MaxNum", runs.Plus, rs(0, api.MaxNum-1), rs(0, 1), rs(0, api.MaxNum), api.OK},
		{"Plus beyond MaxNum", runs.Plus, rs(0, api.MaxNum), rs(0, 1), nil, api.ErrMany},
		{"Plus beyond it at the end", runs.Plus, rs(0, 0, 47, api.MaxNum), rs(0, 0, 47, 1), nil, api.ErrMany},
		{"Plus beside it", runs.Plus, rs(0, api.MaxNum, 47, 0), rs(0, 0, 47, 1), rs(0, api.MaxNum, 47, 1), api.OK},
		{"Plus down to -MaxNum", runs.Plus, rs(0, 1-api.MaxNum), rs(0, -1), rs(0, -api.MaxNum), api.OK},
		{"Plus below -MaxNum", runs.Plus, rs(0, -api.MaxNum), rs(0, -1), nil, api.ErrMany},
		{"Minus up to MaxNum", runs.Minus, rs(0, 0), rs(0, -api.MaxNum), rs(0, api.MaxNum), api.OK},
		{"Minus beyond MaxNum", runs.Minus, rs(0, 1), rs(0, -api.MaxNum), nil, api.ErrMany},
		{"Minus down to -MaxNum", runs.Minus, rs(0, 0), rs(0, api.MaxNum), rs(0, -api.MaxNum), api.OK},
		{"Minus below -MaxNum", runs.Minus, rs(0, -1), rs(0, api.MaxNum), nil, api.ErrMany},
		{"Lesser of the ends", runs.Lesser, rs(0, api.MaxNum, 3, -api.MaxNum), rs(0, -api.MaxNum, 3, api.MaxNum), rs(0, -api.MaxNum), api.OK},
	} {
		if h, e := x.do(x.f, x.g); !slices.Equal(h, x.want) || e != x.e {
			t.Errorf("%s of %v and %v: %v %d, not %v %d", x.name, x.f, x.g, h, e, x.want, x.e)
		}
	}
}

// TestA2Bump: the document's first example, and the edges.
func TestA2Bump(t *testing.T) {
	f := rs(0, 5, 10, 8)
	for _, x := range []struct {
		f       []api.Run
		a, b, n int
		want    []api.Run
		e       api.Errno
	}{
		{f, 5, 12, 2, rs(0, 5, 5, 7, 10, 10, 12, 8), api.OK},
		{f, 0, 48, 2, rs(0, 7, 10, 10), api.OK},
		{f, 0, 10, 3, rs(0, 8), api.OK},
		{f, 10, 48, -3, rs(0, 5), api.OK},
		{f, 0, 1, 1, rs(0, 6, 1, 5, 10, 8), api.OK},
		{f, 47, 48, 1, rs(0, 5, 10, 8, 47, 9), api.OK},
		{f, 5, 12, 0, rs(0, 5, 10, 8), api.OK},
		{f, 0, 48, 0, rs(0, 5, 10, 8), api.OK},
		{f, -1, 12, 2, nil, api.ErrRange},
		{f, 5, 5, 2, nil, api.ErrRange},
		{f, 6, 5, 2, nil, api.ErrRange},
		{f, 5, 49, 2, nil, api.ErrRange},
		{f, 48, 48, 2, nil, api.ErrRange},
		{f, 48, 49, 2, nil, api.ErrRange},
		{f, math.MinInt, math.MaxInt, 2, nil, api.ErrRange},
		{f, 5, 12, api.MaxNum + 1, nil, api.ErrRange},
		{f, 5, 12, -api.MaxNum - 1, nil, api.ErrRange},
		{f, 5, 12, math.MaxInt, nil, api.ErrRange},
		{f, 5, 12, math.MinInt, nil, api.ErrRange},
		{f, 5, 12, api.MaxNum, nil, api.ErrMany},
		{f, 5, 12, -api.MaxNum, rs(0, 5, 5, 5-api.MaxNum, 10, 8-api.MaxNum, 12, 8), api.OK},
		{f, 5, 10, api.MaxNum - 5, rs(0, 5, 5, api.MaxNum, 10, 8), api.OK},
		{f, 5, 11, api.MaxNum - 5, nil, api.ErrMany},
		{rs(0, -api.MaxNum), 47, 48, -1, nil, api.ErrMany},
		{rs(0, -api.MaxNum), 0, 1, -1, nil, api.ErrMany},
		{rs(0, -api.MaxNum), 0, 48, api.MaxNum, rs(0, 0), api.OK},
		{rs(0, api.MaxNum), 3, 2, api.MaxNum, nil, api.ErrRange},
	} {
		if h, e := runs.Bump(x.f, x.a, x.b, x.n); !slices.Equal(h, x.want) || e != x.e {
			t.Errorf("Bump of %v from %d to %d by %d: %v %d, not %v %d", x.f, x.a, x.b, x.n, h, e, x.want, x.e)
		}
	}
}

// TestA2Least: with a, without b.
func TestA2Least(t *testing.T) {
	f := rs(0, 5, 10, 8, 20, -1, 30, 9)
	for _, x := range []struct {
		a, b, n int
		e       api.Errno
	}{
		{0, 48, -1, api.OK}, {0, 20, 5, api.OK}, {0, 21, -1, api.OK}, {10, 20, 8, api.OK}, {9, 20, 5, api.OK},
		{29, 48, -1, api.OK}, {30, 48, 9, api.OK}, {47, 48, 9, api.OK}, {0, 1, 5, api.OK},
		{-1, 5, 0, api.ErrRange}, {5, 5, 0, api.ErrRange}, {6, 5, 0, api.ErrRange}, {5, 49, 0, api.ErrRange}, {48, 48, 0, api.ErrRange},
		{math.MinInt, math.MaxInt, 0, api.ErrRange}, {math.MaxInt, math.MinInt, 0, api.ErrRange},
	} {
		if n, e := runs.Least(f, x.a, x.b); n != x.n || e != x.e {
			t.Errorf("Least from %d to %d: %d %d, not %d %d", x.a, x.b, n, e, x.n, x.e)
		}
	}
}

// drawn: numbers, the same each time.
type drawn uint64

func (d *drawn) below(n int) int {
	*d = *d*6364136223846793005 + 1442695040888963407
	return int(uint64(*d) >> 33 % uint64(n))
}

// said: what right runs say, time by time, read in the plainest way.
func said(f []api.Run) [api.End]int {
	var s [api.End]int
	for _, r := range f {
		for t := r.At; t < api.End; t++ {
			s[t] = r.N
		}
	}
	return s
}

// told: the one way of saying that.
func told(s [api.End]int) ([]api.Run, api.Errno) {
	f := rs(0, s[0])
	for t, n := range s {
		if n < -api.MaxNum || n > api.MaxNum {
			return nil, api.ErrMany
		}
		if n != f[len(f)-1].N {
			f = append(f, api.Run{At: t, N: n})
		}
	}
	return f, api.OK
}

// draw right runs, near the greatest numbers now and then.
func (d *drawn) runs() []api.Run {
	var s [api.End]int
	for t := range s {
		switch {
		case t > 0 && d.below(3) > 0:
			s[t] = s[t-1]
		case d.below(40) == 0:
			s[t] = (api.MaxNum - d.below(4)) * (1 - 2*d.below(2))
		default:
			s[t] = d.below(7) - 3
		}
	}
	f, _ := told(s)
	return f
}

// TestA2AllTimes: each call against what it says time by time.
func TestA2AllTimes(t *testing.T) {
	d := drawn(7)
	for range 3000 {
		f, g := d.runs(), d.runs()
		a, b, n := d.below(api.End+4)-2, d.below(api.End+4)-2, d.below(9)-4
		x, y := said(f), said(g)
		var sum, less, lesser [api.End]int
		bump := x
		least, inside := math.MaxInt, 0 <= a && a < b && b <= api.End
		for i := range x {
			sum[i], less[i], lesser[i] = x[i]+y[i], x[i]-y[i], min(x[i], y[i])
			if inside && a <= i && i < b {
				bump[i] += n
				least = min(least, x[i])
			}
			if v, e := runs.Value(f, i); v != x[i] || e != api.OK {
				t.Fatalf("Value of %v at %d: %d %d", f, i, v, e)
			}
		}
		same := func(name string, h []api.Run, e api.Errno, want [api.End]int) {
			if w, we := told(want); !slices.Equal(h, w) || e != we {
				t.Fatalf("%s of %v, %v, %d, %d, %d: %v %d, not %v %d", name, f, g, a, b, n, h, e, w, we)
			}
		}
		h, e := runs.Plus(f, g)
		same("Plus", h, e, sum)
		h, e = runs.Minus(f, g)
		same("Minus", h, e, less)
		h, e = runs.Lesser(f, g)
		same("Lesser", h, e, lesser)
		h, e = runs.Bump(f, a, b, n)
		m, le := runs.Least(f, a, b)
		if inside {
			same("Bump", h, e, bump)
			if m != least || le != api.OK {
				t.Fatalf("Least of %v from %d to %d: %d %d, not %d", f, a, b, m, le, least)
			}
		} else if len(h) != 0 || e != api.ErrRange || m != 0 || le != api.ErrRange {
			t.Fatalf("from %d to %d: %v %d, %d %d", a, b, h, e, m, le)
		}
	}
}

// TestP1: whatever is handed in, no call panics.
func TestP1(t *testing.T) {
	odd := []int{math.MinInt, math.MinInt + 1, -api.MaxNum - 1, -1, 0, 1, api.End - 1, api.End, api.MaxNum + 1, math.MaxInt}
	for _, a := range odd {
		for _, b := range odd {
			for _, n := range odd {
				f, g := rs(0, 1, a, b, b, n), rs(0, n, a, b)
				for _, h := range [][]api.Run{nil, f, g, rs(0, n), rs(0, 1)} {
					runs.Check(h)
					runs.Value(h, a)
					runs.Plus(h, g)
					runs.Minus(g, h)
					runs.Lesser(h, f)
					runs.Bump(h, a, b, n)
					runs.Least(h, a, b)
				}
			}
		}
	}
}

// calls: every call of the package, on f and g, as one list of answers.
func calls(f, g []api.Run) []any {
	v, ve := runs.Value(f, 12)
	p, pe := runs.Plus(f, g)
	m, me := runs.Minus(f, g)
	l, le := runs.Lesser(f, g)
	b, be := runs.Bump(f, 5, 12, 2)
	z, ze := runs.Bump(f, 5, 12, 0)
	n, ne := runs.Least(f, 5, 12)
	return []any{runs.Check(f), v, ve, p, pe, m, me, l, le, b, be, z, ze, n, ne}
}

// roomy: the same runs, with spare room behind them, that has a mark in it.
func roomy(f []api.Run) []api.Run {
	x := make([]api.Run, 0, len(f)+50)
	x = append(x, f...)
	for i := len(f); i < cap(x); i++ {
		x[:cap(x)][i] = api.Run{At: -7, N: -7}
	}
	return x
}

// TestP2: what is handed in is only read, spare room and all, and an answer shares nothing with it.
func TestP2(t *testing.T) {
	f, g := roomy(rs(0, 5, 10, 8)), roomy(rs(0, 0))
	calls(f, g)
	if !slices.Equal(f[:cap(f)], roomy(rs(0, 5, 10, 8))[:cap(f)]) || !slices.Equal(g[:cap(g)], roomy(rs(0, 0))[:cap(g)]) {
		t.Errorf("what was handed in has changed: %v %v", f[:cap(f)], g[:cap(g)])
	}
	before := calls(f, g)
	kept := calls(f, g)
	for i := range f[:cap(f)] {
		f[:cap(f)][i] = api.Run{At: 3, N: 3}
	}
	g[0].N = 99
	want := calls(rs(0, 5, 10, 8), rs(0, 0))
	if !reflect.DeepEqual(kept, want) {
		t.Errorf("an answer was changed by way of what was handed in: %v, not %v", kept, want)
	}
	for _, x := range before {
		if h, ok := x.([]api.Run); ok {
			for i := range h[:cap(h)] {
				h[:cap(h)][i] = api.Run{At: 4, N: 4}
			}
		}
	}
	if !reflect.DeepEqual(kept, want) {
		t.Errorf("two answers share memory: %v, not %v", kept, want)
	}
}

// TestP3: the same question has the same answer, whatever was asked between.
func TestP3(t *testing.T) {
	f, g := rs(0, 5, 10, 8), rs(0, 1, 5, 3, 20, 9)
	first := calls(f, g)
	for _, h := range wrong() {
		calls(h, f)
		calls(g, h)
	}
	for _, h := range right() {
		calls(h, g)
	}
	if again := calls(slices.Clip(f), roomy(g)); !reflect.DeepEqual(first, again) {
		t.Errorf("first %v, then %v", first, again)
	}
}

// TestP4: what is far longer than right runs can be has its answer, too.
func TestP4(t *testing.T) {
	long := make([]api.Run, 1<<20)
	for i := range long {
		long[i] = api.Run{At: i, N: i % 2}
	}
	if e := runs.Check(long); e != api.ErrForm {
		t.Errorf("Check: %d", e)
	}
	if h, e := runs.Plus(rs(0, 1), long); len(h) != 0 || e != api.ErrForm {
		t.Errorf("Plus: %v %d", h, e)
	}
}
