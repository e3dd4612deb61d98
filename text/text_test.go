package text_test

import (
	"math"
	"reflect"
	"regexp"
	"slices"
	"strconv"
	"strings"
	"testing"

	"acreage/api"
	"acreage/text"
)

// rs: runs from At and N in turn.
func rs(n ...int) []api.Run {
	f := []api.Run{}
	for i := 0; i+1 < len(n); i += 2 {
		f = append(f, api.Run{At: n[i], N: n[i+1]})
	}
	return f
}

// field: the queues of the document's examples.
func field() []api.Queue {
	return []api.Queue{
		{Name: "all", Parent: -1, Cap: rs(0, 10)},
		{Name: "north", Parent: 0, Cap: rs(0, 8, 20, 4)},
		{Name: "south", Parent: 0, Cap: rs(0, 6)},
		{Name: "barn", Parent: 1, Cap: rs(0, 8)},
	}
}

const fieldShown = "all: 0=10\nnorth < all: 0=8 20=4\nsouth < all: 0=6\nbarn < north: 0=8\n"

// most: as much as queues can have.
func most() []api.Queue {
	var l []api.Queue
	for i := range api.MaxQueues {
		q := api.Queue{Name: "queueis" + string(rune('a'+i)), Parent: i - 1}
		for at := range api.End {
			q.Cap = append(q.Cap, api.Run{At: at, N: api.MaxCap - at%2})
		}
		l = append(l, q)
	}
	return l
}

// mostShown: the same, written once more.
func mostShown() string {
	s := ""
	for i := range api.MaxQueues {
		s += "queueis" + string(rune('a'+i))
		if i > 0 {
			s += " < queueis" + string(rune('a'+i-1))
		}
		s += ":"
		for at := range api.End {
			s += " " + strconv.Itoa(at) + "=" + strconv.Itoa(50-at%2)
		}
		s += "\n"
	}
	return s
}

// shown: queues, and their text.
type shown struct {
	name string
	l    []api.Queue
	text string
}

func showns() []shown {
	return []shown{
		{"the queues are four lines", field(), fieldShown},
		{"one", []api.Queue{{Name: "a", Parent: -1, Cap: rs(0, 1)}}, "a: 0=1\n"},
		{"nothing at all", []api.Queue{{Name: "z", Parent: -1, Cap: rs(0, 0)}}, "z: 0=0\n"},
		{"two that have no Parent", []api.Queue{{Name: "b", Parent: -1, Cap: rs(0, 1)}, {Name: "a", Parent: -1, Cap: rs(0, 1)}}, "b: 0=1\na: 0=1\n"},
		{"beneath the second", []api.Queue{{Name: "b", Parent: -1, Cap: rs(0, 1)}, {Name: "a", Parent: -1, Cap: rs(0, 1)}, {Name: "ab", Parent: 1, Cap: rs(0, 1)}}, "b: 0=1\na: 0=1\nab < a: 0=1\n"},
		{"the longest name, the last time, the most", []api.Queue{{Name: "abcdefgh", Parent: -1, Cap: rs(0, 50, 47, 0)}}, "abcdefgh: 0=50 47=0\n"},
		{"as much as may be", most(), mostShown()},
	}
}

// TestL1Show: a line each; and it is read as it was.
func TestL1Show(t *testing.T) {
	for _, x := range showns() {
		if s, e := text.Show(x.l); s != x.text || e != api.OK {
			t.Errorf("%s: %q %d, not %q", x.name, s, e, x.text)
		}
		if l, e := text.Read(x.text); !reflect.DeepEqual(l, x.l) || e != api.OK {
			t.Errorf("%s: %v %d, not %v", x.name, l, e, x.l)
		}
	}
}

// TestL1ShowErrors: tree.Check's, in its order.
func TestL1ShowErrors(t *testing.T) {
	for _, x := range []struct {
		name string
		do   func(l []api.Queue) []api.Queue
		e    api.Errno
	}{
		{"none", func(l []api.Queue) []api.Queue { return nil }, api.ErrMany},
		{"six", func(l []api.Queue) []api.Queue { return append(l, l[0], l[1]) }, api.ErrMany},
		{"no name", func(l []api.Queue) []api.Queue { l[1].Name, l[2].Name = "", "all"; return l }, api.ErrName},
		{"a name with a blank", func(l []api.Queue) []api.Queue { l[1].Name = "no th"; return l }, api.ErrName},
		{"a long name", func(l []api.Queue) []api.Queue { l[1].Name = "northeast"; return l }, api.ErrName},
		{"the same name", func(l []api.Queue) []api.Queue { l[1].Name, l[1].Parent = "all", 1; return l }, api.ErrThere},
		{"beneath itself", func(l []api.Queue) []api.Queue { l[1].Parent, l[1].Cap = 1, nil; return l }, api.ErrRange},
		{"Parent below -1", func(l []api.Queue) []api.Queue { l[0].Parent = -2; return l }, api.ErrRange},
		{"no Cap", func(l []api.Queue) []api.Queue { l[3].Cap = nil; return l }, api.ErrForm},
		{"51", func(l []api.Queue) []api.Queue { l[3].Cap = rs(0, 51); return l }, api.ErrForm},
		{"below 0", func(l []api.Queue) []api.Queue { l[3].Cap = rs(0, 5, 6, -1); return l }, api.ErrForm},
		{"twice the same", func(l []api.Queue) []api.Queue { l[3].Cap = rs(0, 5, 6, 5); return l }, api.ErrForm},
	} {
		if s, e := text.Show(x.do(field())); s != "" || e != x.e {
			t.Errorf("%s: %q %d, not %d", x.name, s, e, x.e)
		}
	}
}

// TestL1ReadErrors: ErrForm of what no queues are shown as; ErrMany of what is too long, whatever it is.
func TestL1ReadErrors(t *testing.T) {
	for _, s := range []string{
		"", "\n", " ", "a", "a\n", ":", ":\n", "a:\n", "a: \n", "a: 0=1", ": 0=1\n", "a 0=1\n", "a:0=1\n", "a : 0=1\n", " a: 0=1\n",
		"a:  0=1\n", "a: 0=1 \n", "a: 0=1\n\n", "\na: 0=1\n", "a: 0=1\r\n", "a:\t0=1\n", "a: 0=1\t1=2\n", "a: 0=1\v\n", "a: 0=1\x00\n", "a: 0=1\xc2\xa0\n",
		"a: 00=1\n", "a: 0=01\n", "a: 0=+1\n", "a: 0=-1\n", "a: 0=-0\n", "a: -0=1\n", "a: 0=\n", "a: =1\n", "a: =\n", "a: 0\n", "a: 0=1=2\n", "a: 0==1\n", "a: 0=x\n", "a: 0=0x1\n", "a: 0=1_0\n", "a: 0=1.0\n",
		"a: 1=1\n", "a: 0=1 1=1\n", "a: 0=1 1=2 1=3\n", "a: 0=1 2=2 1=3\n", "a: 0=1 48=2\n", "a: 0=51\n", "a: 0=18446744073709551617\n", "a: 0=99999999999999999999\n", "a: 18446744073709551616=1\n",
		"A: 0=1\n", "a1: 0=1\n", "abcdefghi: 0=1\n", "\xe4: 0=1\n", "a: 0=1\na: 0=1\n",
		"a < b: 0=1\n", "a < a: 0=1\n", "a < : 0=1\n", "a <: 0=1\n", "a: 0=1\nb < b: 0=1\n", "a: 0=1\nb < c: 0=1\nc: 0=1\n", "a: 0=1\nb<a: 0=1\n", "a: 0=1\nb  < a: 0=1\n", "a: 0=1\nb <  a: 0=1\n", "a: 0=1\nb > a: 0=1\n", "a: 0=1\nb < a < a: 0=1\n", "a: 0=1\nb < a:: 0=1\n", "a: 0=1\nb < a: 0=1: 1=2\n", "a: 0=1\n < a: 0=1\n", "a: 0=1\nb < a : 0=1\n", "a: 0=1\nb < -1: 0=1\n", "a: 0=1\nb < 0: 0=1\n",
		"a: 0=1\nb: 0=1\nc: 0=1\nd: 0=1\ne: 0=1\nf: 0=1\n",
		strings.Repeat("\n", api.MaxBytes), strings.Repeat("x", api.MaxBytes), strings.Repeat("a: 0=1\n", 500),
	} {
		if l, e := text.Read(s); len(l) != 0 || e != api.ErrForm {
			t.Errorf("%.60q: %v %d", s, l, e)
		}
	}
	for _, s := range []string{strings.Repeat("x", api.MaxBytes+1), fieldShown + strings.Repeat("\n", api.MaxBytes), strings.Repeat("a: 0=1\n", 1<<18)} {
		if l, e := text.Read(s); len(l) != 0 || e != api.ErrMany {
			t.Errorf("%d bytes: %v %d", len(s), l, e)
		}
	}
}

// drawn: numbers, the same each time.
type drawn uint64

func (d *drawn) below(n int) int {
	*d = *d*6364136223846793005 + 1442695040888963407
	return int(uint64(*d) >> 33 % uint64(n))
}

// queues that are drawn.
func (d *drawn) queues() []api.Queue {
	var l []api.Queue
	for i := range 1 + d.below(api.MaxQueues) {
		q := api.Queue{Name: string(rune('a' + i)), Parent: d.below(i+1) - 1, Cap: rs(0, d.below(51))}
		for range d.below(api.MaxName) {
			q.Name += string(rune('a' + d.below(26)))
		}
		for at := 1; at < api.End; at++ {
			if n := d.below(51); d.below(9) == 0 && n != q.Cap[len(q.Cap)-1].N {
				q.Cap = append(q.Cap, api.Run{At: at, N: n})
			}
		}
		l = append(l, q)
	}
	return l
}

// TestL2Drawn: what is shown is read as it was; and no two are shown alike.
func TestL2Drawn(t *testing.T) {
	d := drawn(31)
	seen := map[string][]api.Queue{}
	for range 2000 {
		l := d.queues()
		s, e := text.Show(l)
		if e != api.OK {
			t.Fatalf("%v: %d", l, e)
		}
		if got, e := text.Read(s); e != api.OK || !reflect.DeepEqual(got, l) {
			t.Fatalf("%q: %v %d, not %v", s, got, e, l)
		}
		if other, is := seen[s]; is && !reflect.DeepEqual(other, l) {
			t.Fatalf("%q: %v and %v", s, other, l)
		}
		seen[s] = l
	}
}

var lineForm = regexp.MustCompile(`^([a-z]{1,8})(?: < ([a-z]{1,8}))?:((?: (?:0|[1-9][0-9]{0,3})=(?:0|[1-9][0-9]{0,3}))+)$`)

// form: is that the text of right queues? (The promises once more.)
func form(s string) bool {
	body, ended := strings.CutSuffix(s, "\n")
	lines := strings.Split(body, "\n")
	if !ended || len(lines) > api.MaxQueues {
		return false
	}
	var names []string
	for _, line := range lines {
		m := lineForm.FindStringSubmatch(line)
		if m == nil || slices.Contains(names, m[1]) || m[2] != "" && !slices.Contains(names, m[2]) {
			return false
		}
		names = append(names, m[1])
		lastAt, lastN := -1, -1
		for i, w := range strings.Split(m[3], " ")[1:] {
			at, n, _ := strings.Cut(w, "=")
			a, _ := strconv.Atoi(at)
			b, _ := strconv.Atoi(n)
			if i == 0 && a != 0 || a <= lastAt || a >= api.End || b > api.MaxCap || b == lastN {
				return false
			}
			lastAt, lastN = a, b
		}
	}
	return true
}

// TestL2Else: of texts that are nearly such ones, just those are read that are; as nothing else.
func TestL2Else(t *testing.T) {
	d := drawn(32)
	const signs = "0123456789=: <\nalnorthsu-+\r\x00\xff"
	read, not := 0, 0
	for range 20000 {
		b := []byte(fieldShown)
		for range 1 + d.below(3) {
			i, c := d.below(len(b)), signs[d.below(len(signs))]
			switch d.below(4) {
			case 0:
				b = slices.Delete(b, i, i+1)
			case 1:
				b = slices.Insert(b, i, c)
			default:
				b[i] = c
			}
		}
		s := string(b)
		l, e := text.Read(s)
		if !form(s) {
			not++
			if len(l) != 0 || e != api.ErrForm {
				t.Fatalf("%q: %v %d", s, l, e)
			}
			continue
		}
		read++
		if again, f := text.Show(l); e != api.OK || f != api.OK || again != s {
			t.Fatalf("%q: %v %d, %q %d", s, l, e, again, f)
		}
	}
	if read < 500 || not < 5000 {
		t.Errorf("drawn too much of one sort: %d %d", read, not)
	}
}

// TestP1: whatever is handed in, no call panics, and with an error there is nothing beside it.
func TestP1(t *testing.T) {
	odd := []int{math.MinInt, -2, -1, 0, 1, 3, api.End, math.MaxInt}
	for _, a := range odd {
		for _, b := range odd {
			for _, c := range odd {
				l := field()
				l[2].Parent, l[3].Cap = a, rs(0, 5, b, c)
				for _, x := range [][]api.Queue{l, {{Name: "a", Parent: a, Cap: rs(b, c)}}, {{}}, make([]api.Queue, 5)} {
					if s, e := text.Show(x); e != api.OK && s != "" {
						t.Fatalf("%v: %q beside %d", x, s, e)
					}
				}
			}
		}
	}
	for i := range 256 {
		for _, s := range []string{string([]byte{byte(i)}), strings.Repeat(string([]byte{byte(i)}), 99), "a: 0=1" + string([]byte{byte(i)}), "a: " + string([]byte{byte(i)}) + "=1\n"} {
			if l, e := text.Read(s); e != api.OK && len(l) != 0 {
				t.Fatalf("%q: %v beside %d", s, l, e)
			}
		}
	}
}

// TestP2: queues that are handed in are only read, the spare room too; and of an answer no two lists share memory.
func TestP2(t *testing.T) {
	make1 := func() []api.Queue {
		l := append(field(), api.Queue{Name: "mark", Parent: 7})
		for i := range 4 {
			l[i].Cap = append(l[i].Cap, api.Run{At: 7, N: 7})
			l[i].Cap = l[i].Cap[:len(l[i].Cap)-1]
		}
		return l
	}
	all := func(l []api.Queue) (out []any) {
		out = append(out, l)
		for i := range 4 {
			out = append(out, l[i].Cap[:len(l[i].Cap)+1])
		}
		return out
	}
	l := make1()
	text.Show(l[:4])
	if !reflect.DeepEqual(all(l), all(make1())) {
		t.Errorf("what was handed in has changed: %v", l)
	}
	got, _ := text.Read(fieldShown)
	other, _ := text.Read(fieldShown)
	for i := range got {
		got[i].Cap = append(got[i].Cap, rs(9, 9, 9, 9, 9, 9)...)[:len(other[i].Cap)]
	}
	if !reflect.DeepEqual(got, other) || !reflect.DeepEqual(got, field()) {
		t.Errorf("lists of the answer share memory: %v, not %v", got, other)
	}
	clear(other[0].Cap)
	if !reflect.DeepEqual(got, field()) {
		t.Errorf("two answers share memory: %v", got)
	}
}

// TestP3: the same question has the same answer, whatever was asked between.
func TestP3(t *testing.T) {
	for range 3 {
		if s, e := text.Show(field()); s != fieldShown || e != api.OK {
			t.Errorf("%q %d", s, e)
		}
		if l, e := text.Read(fieldShown); !reflect.DeepEqual(l, field()) || e != api.OK {
			t.Errorf("%v %d", l, e)
		}
		text.Show(nil)
		text.Show(most())
		text.Read("a: 0=1")
		text.Read(mostShown())
	}
}

// TestP4: what is far more than it may be has its answer, too.
func TestP4(t *testing.T) {
	if s, e := text.Show(make([]api.Queue, 1<<20)); s != "" || e != api.ErrMany {
		t.Errorf("%d", e)
	}
	if l, e := text.Read(strings.Repeat(fieldShown, 1<<18)); len(l) != 0 || e != api.ErrMany {
		t.Errorf("%d", e)
	}
}
