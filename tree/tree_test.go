package tree_test

import (
	"math"
	"reflect"
	"slices"
	"strings"
	"testing"

	"acreage/api"
	"acreage/tree"
)

// rs: runs from At and N in turn.
func rs(n ...int) []api.Run {
	f := []api.Run{}
	for i := 0; i+1 < len(n); i += 2 {
		f = append(f, api.Run{At: n[i], N: n[i+1]})
	}
	return f
}

// field: the queues of the document's examples.
func field() []api.Queue {
	return []api.Queue{
		{Name: "all", Parent: -1, Cap: rs(0, 10)},
		{Name: "north", Parent: 0, Cap: rs(0, 8, 20, 4)},
		{Name: "south", Parent: 0, Cap: rs(0, 6)},
		{Name: "barn", Parent: 1, Cap: rs(0, 8)},
	}
}

// queues with those Parents, and names of one letter.
func queues(parents ...int) []api.Queue {
	l := []api.Queue{}
	for i, p := range parents {
		l = append(l, api.Queue{Name: string(rune('a' + i)), Parent: p, Cap: rs(0, 1)})
	}
	return l
}

// TestB1Name: length and letters.
func TestB1Name(t *testing.T) {
	for _, s := range []string{"a", "z", "az", "barn", "abcdefgh", "zzzzzzzz"} {
		if !tree.Name(s) {
			t.Errorf("%q is none", s)
		}
	}
	for _, s := range []string{"", "abcdefghi", "A", "Z", "bArn", "a1", "1", " ", "a ", " a", "a\n", "a\x00", "\x00", "a_b", "`", "{", "ä", "\xff", "abcdefg\x80", "abcdefgB", strings.Repeat("a", 1<<20)} {
		if tree.Name(s) {
			t.Errorf("%q is one", s)
		}
	}
	for c := range 256 {
		if got, want := tree.Name(string([]byte{'q', byte(c)})), 'a' <= c && c <= 'z'; got != want {
			t.Errorf("byte %d: %v", c, got)
		}
	}
}

// wrong: queues with one error each, or with several: the first one is what is told.
func wrong() []struct {
	name string
	l    []api.Queue
	e    api.Errno
} {
	with := func(turns ...func(l []api.Queue)) []api.Queue {
		l := field()
		for _, turn := range turns {
			turn(l)
		}
		return l
	}
	name := func(l []api.Queue) { l[3].Name = "Barn" }
	same := func(l []api.Queue) { l[2].Name = "all" }
	parent := func(l []api.Queue) { l[1].Parent = 1 }
	form := func(l []api.Queue) { l[0].Cap = nil }
	put := func(q int, f ...int) func(l []api.Queue) { return func(l []api.Queue) { l[q].Cap = rs(f...) } }
	under := func(q, p int) func(l []api.Queue) { return func(l []api.Queue) { l[q].Parent = p } }
	return []struct {
		name string
		l    []api.Queue
		e    api.Errno
	}{
		{"nil", nil, api.ErrMany},
		{"none", []api.Queue{}, api.ErrMany},
		{"six", queues(-1, 0, 1, 2, 3, 4), api.ErrMany},
		{"six that have nothing", make([]api.Queue, 6), api.ErrMany},
		{"no name", with(name), api.ErrName},
		{"the empty name", with(func(l []api.Queue) { l[0].Name = "" }), api.ErrName},
		{"too long a name", with(func(l []api.Queue) { l[0].Name = "abcdefghi" }), api.ErrName},
		{"no name, twice", with(func(l []api.Queue) { l[0].Name, l[1].Name = "A", "A" }), api.ErrName},
		{"the same name", with(same), api.ErrThere},
		{"the same name, first and last", with(func(l []api.Queue) { l[3].Name = "all" }), api.ErrThere},
		{"beneath itself", with(parent), api.ErrRange},
		{"the first beneath itself", with(under(0, 0)), api.ErrRange},
		{"beneath a later one", with(under(1, 3)), api.ErrRange},
		{"beneath one that is not there", with(under(3, 4)), api.ErrRange},
		{"Parent -2", with(under(3, -2)), api.ErrRange},
		{"least Parent", with(under(3, math.MinInt)), api.ErrRange},
		{"greatest Parent", with(under(3, math.MaxInt)), api.ErrRange},
		{"no runs", with(form), api.ErrForm},
		{"wrong runs", with(put(3, 1, 5)), api.ErrForm},
		{"the same N", with(put(3, 0, 5, 4, 5)), api.ErrForm},
		{"a run at End", with(put(3, 0, 5, api.End, 4)), api.ErrForm},
		{"more than MaxCap", with(put(0, 0, api.MaxCap+1)), api.ErrForm},
		{"more than MaxCap, later", with(put(3, 0, 5, 9, api.MaxCap+1)), api.ErrForm},
		{"less than none", with(put(0, 0, -1)), api.ErrForm},
		{"less than none, later", with(put(3, 0, 5, 9, -1)), api.ErrForm},
		{"name, same, parent, form", with(name, same, parent, form), api.ErrName},
		{"same, parent, form", with(same, parent, form), api.ErrThere},
		{"parent, form", with(parent, form), api.ErrRange},
	}
}

// TestB1Check: the errors, in their order, and what has none.
func TestB1Check(t *testing.T) {
	for _, x := range wrong() {
		if e := tree.Check(x.l); e != x.e {
			t.Errorf("%s: %d, not %d", x.name, e, x.e)
		}
	}
	edges := queues(-1, -1, 0)
	edges[0].Cap = rs(0, 0)
	edges[1].Cap = rs(0, api.MaxCap)
	edges[2].Cap = rs(0, api.MaxCap, 47, 0)
	for _, l := range [][]api.Queue{field(), edges, queues(-1), queues(-1, 0, 1, 2, 3), queues(-1, -1, -1, -1, -1)} {
		if e := tree.Check(l); e != api.OK {
			t.Errorf("Check of %v: %d", l, e)
		}
	}
}

// TestB1First: Line and Under tell Check's errors ahead of ErrNone, and nothing beside an error.
func TestB1First(t *testing.T) {
	for _, x := range wrong() {
		for _, q := range []int{0, -1, 9, math.MinInt, math.MaxInt} {
			if a, e := tree.Line(x.l, q); len(a) != 0 || e != x.e {
				t.Errorf("Line, %s, %d: %v %d, not %d", x.name, q, a, e, x.e)
			}
			if a, e := tree.Under(x.l, q); len(a) != 0 || e != x.e {
				t.Errorf("Under, %s, %d: %v %d, not %d", x.name, q, a, e, x.e)
			}
		}
	}
	for _, q := range []int{-1, 4, 5, math.MinInt, math.MaxInt} {
		if a, e := tree.Line(field(), q); len(a) != 0 || e != api.ErrNone {
			t.Errorf("Line of %d: %v %d", q, a, e)
		}
		if a, e := tree.Under(field(), q); len(a) != 0 || e != api.ErrNone {
			t.Errorf("Under of %d: %v %d", q, a, e)
		}
	}
}

// TestB2: the document's second example, a line of five, and queues beside one another.
func TestB2(t *testing.T) {
	for _, x := range []struct {
		l     []api.Queue
		q     int
		line  []int
		under []bool
	}{
		{field(), 0, []int{0}, []bool{true, true, true, true}},
		{field(), 1, []int{1, 0}, []bool{false, true, false, true}},
		{field(), 2, []int{2, 0}, []bool{false, false, true, false}},
		{field(), 3, []int{3, 1, 0}, []bool{false, false, false, true}},
		{queues(-1), 0, []int{0}, []bool{true}},
		{queues(-1, 0, 1, 2, 3), 4, []int{4, 3, 2, 1, 0}, []bool{false, false, false, false, true}},
		{queues(-1, 0, 1, 2, 3), 2, []int{2, 1, 0}, []bool{false, false, true, true, true}},
		{queues(-1, -1, 0, 1, 1), 1, []int{1}, []bool{false, true, false, true, true}},
		{queues(-1, -1, 0, 1, 1), 4, []int{4, 1}, []bool{false, false, false, false, true}},
	} {
		if a, e := tree.Line(x.l, x.q); !slices.Equal(a, x.line) || e != api.OK {
			t.Errorf("Line of %d: %v %d, not %v", x.q, a, e, x.line)
		}
		if a, e := tree.Under(x.l, x.q); !slices.Equal(a, x.under) || e != api.OK {
			t.Errorf("Under of %d: %v %d, not %v", x.q, a, e, x.under)
		}
	}
}

// TestB2All: of all queues that there can be: a line begins with its queue, ends with one that has no Parent, and who is under whom is what the lines say.
func TestB2All(t *testing.T) {
	var each func(parents []int)
	each = func(parents []int) {
		if len(parents) > 0 {
			lines(t, queues(parents...))
		}
		if len(parents) == api.MaxQueues {
			return
		}
		for p := -1; p < len(parents); p++ {
			each(append(slices.Clone(parents), p))
		}
	}
	each(nil)
}

func lines(t *testing.T, l []api.Queue) {
	t.Helper()
	for q := range l {
		line, e := tree.Line(l, q)
		if e != api.OK || len(line) == 0 || line[0] != q || l[line[len(line)-1]].Parent != -1 {
			t.Fatalf("Line of %d in %v: %v %d", q, l, line, e)
		}
		for i, p := range line[1:] {
			if l[line[i]].Parent != p {
				t.Fatalf("Line of %d in %v: %v", q, l, line)
			}
		}
		under, e := tree.Under(l, q)
		if e != api.OK || len(under) != len(l) {
			t.Fatalf("Under of %d in %v: %v %d", q, l, under, e)
		}
		for i, u := range under {
			if other, _ := tree.Line(l, i); u != slices.Contains(other, q) {
				t.Fatalf("Under of %d in %v: %v", q, l, under)
			}
		}
	}
}

// TestP1: whatever is handed in, every call ends and none panics.
func TestP1(t *testing.T) {
	odd := []int{math.MinInt, -2, -1, 0, 1, 2, api.End, math.MaxInt}
	for _, a := range odd {
		for _, b := range odd {
			for _, c := range odd {
				l := queues(a, b, c)
				l[1].Cap = rs(a, b, b, c)
				for _, m := range [][]api.Queue{l, l[:1], l[2:], queues(a, b, c), nil} {
					tree.Check(m)
					tree.Line(m, a)
					tree.Under(m, c)
				}
			}
		}
	}
}

// calls: every call of the package on l, as one list of answers.
func calls(l []api.Queue) []any {
	out := []any{tree.Check(l)}
	for q := -1; q < 5; q++ {
		a, e := tree.Line(l, q)
		b, f := tree.Under(l, q)
		out = append(out, a, e, b, f)
	}
	return out
}

// TestP2: what is handed in is only read, spare room and all, and an answer shares nothing with it, nor with another one.
func TestP2(t *testing.T) {
	mark := api.Queue{Name: "mark", Parent: 7}
	l := append(make([]api.Queue, 0, 9), field()...)
	for i := len(l); i < cap(l); i++ {
		l[:cap(l)][i] = mark
	}
	l[3].Cap = append(make([]api.Run, 0, 9), l[3].Cap...)
	first, second := calls(l), calls(l)
	if !reflect.DeepEqual(l, field()) {
		t.Errorf("what was handed in has changed: %v", l)
	}
	for _, q := range l[len(l):cap(l)] {
		if !reflect.DeepEqual(q, mark) {
			t.Errorf("the spare room has changed: %v", q)
		}
	}
	for _, r := range l[3].Cap[1:9] {
		if r != (api.Run{}) {
			t.Errorf("the spare room of a Cap has changed: %v", r)
		}
	}
	want := calls(field())
	for i := range l {
		l[i] = mark
	}
	for _, x := range first {
		switch a := x.(type) {
		case []int:
			for i := range a[:cap(a)] {
				a[:cap(a)][i] = 77
			}
		case []bool:
			for i := range a[:cap(a)] {
				a[:cap(a)][i] = !a[:cap(a)][i]
			}
		}
	}
	if !reflect.DeepEqual(second, want) {
		t.Errorf("an answer was changed by way of another, or of what was handed in: %v, not %v", second, want)
	}
}

// TestP3: the same question has the same answer, whatever was asked between; names that were seen are forgotten.
func TestP3(t *testing.T) {
	first := calls(field())
	for _, x := range wrong() {
		calls(x.l)
	}
	for range 3 {
		if again := calls(field()); !reflect.DeepEqual(first, again) {
			t.Errorf("first %v, then %v", first, again)
		}
	}
}

// TestP4: what is far greater than it may be has its answer, too.
func TestP4(t *testing.T) {
	if e := tree.Check(make([]api.Queue, 1<<18)); e != api.ErrMany {
		t.Errorf("many queues: %d", e)
	}
	l := field()
	l[2].Name = strings.Repeat("a", 1<<20)
	if e := tree.Check(l); e != api.ErrName {
		t.Errorf("a long name: %d", e)
	}
	l = field()
	l[2].Cap = make([]api.Run, 1<<20)
	if e := tree.Check(l); e != api.ErrForm {
		t.Errorf("a long Cap: %d", e)
	}
}
