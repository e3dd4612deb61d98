package desk

import (
	"slices"
	"strconv"
	"strings"

	"acreage/api"
	"acreage/ask"
	"acreage/book"
	"acreage/cut"
	"acreage/pairs"
)

// clerk has the state by now, and reads the words of a line.
type clerk struct {
	words
	state api.State
}

// serve does what a line says, and is what that gives.
func (c *clerk) serve(line string) (given string) {
	defer func() {
		// Words are left ahead of any change: the state is as it was.
		if recover() != nil {
			given = failed(api.ErrForm)
		}
	}()
	c.left = strings.Split(line, " ")
	given, e := c.act()
	if e != api.OK {
		return failed(e)
	}
	return given
}

// act is serve, of a line whose words are not read yet.
func (c *clerk) act() (string, api.Errno) {
	switch c.word() {
	case "all":
		return c.submit(api.All)
	case "any":
		return c.submit(api.Any)
	case "order":
		return c.submit(api.Order)
	case "tight":
		return c.submit(api.Tight)
	case "cancel":
		return c.cancel()
	case "tick":
		return c.tick()
	case "change":
		return c.change()
	case "busy":
		return c.answer(ask.Busy)
	case "left":
		return c.answer(ask.Left)
	case "books":
		return c.books()
	}
	return "", api.ErrForm
}

func (c *clerk) submit(kind int) (string, api.Errno) {
	r := api.Request{Kind: kind}
	r.Queue = c.queue()
	r.From = c.number()
	r.Until = c.number()
	r.Pieces = pairs.Pieces(c.couples(api.MaxPieces), c.number)
	s, id, e := book.Submit(c.state, r)
	if e != api.OK {
		return "", e
	}
	c.state = s
	// The new book stands behind all.
	var at []int
	for _, b := range s.Books[len(s.Books)-1].Bites {
		at = append(at, b.At)
	}
	return say(id, at), api.OK
}

func (c *clerk) cancel() (string, api.Errno) {
	id := c.number()
	c.end()
	s, e := book.Cancel(c.state, id)
	if e != api.OK {
		return "", e
	}
	c.state = s
	return say("ok"), api.OK
}

func (c *clerk) tick() (string, api.Errno) {
	t := c.number()
	c.end()
	s, n, e := book.Tick(c.state, t)
	if e != api.OK {
		return "", e
	}
	c.state = s
	return say(n), api.OK
}

func (c *clerk) change() (string, api.Errno) {
	q := c.queue()
	room := pairs.Runs(c.couples(api.End), c.number)
	s, moved, dropped, e := cut.Change(c.state, q, room)
	if e != api.OK {
		return "", e
	}
	c.state = s
	return say("moved", moved, "dropped", dropped), api.OK
}

// answer gives what a question answers, of a queue and a time.
func (c *clerk) answer(question func(s api.State, q, t int) (int, api.Errno)) (string, api.Errno) {
	q := c.queue()
	t := c.number()
	c.end()
	n, e := question(c.state, q, t)
	if e != api.OK {
		return "", e
	}
	return say(n), api.OK
}

func (c *clerk) books() (string, api.Errno) {
	c.end()
	var ids []int
	for _, b := range c.state.Books {
		ids = append(ids, b.Id)
	}
	return say(ids), api.OK
}

// queue is the number of the queue that the next word names. If there is none it is -1: of that each call tells ErrNone, ahead of all that a line can have wrong beside it.
func (c *clerk) queue() int {
	name := c.name()
	return slices.IndexFunc(c.state.Tree, func(q api.Queue) bool { return q.Name == name })
}

func failed(e api.Errno) string { return say("error", int(e)) }

// say is what is listed (words, numbers, and lists of numbers) with a blank between each two.
func say(listed ...any) string {
	var parts []string
	for _, x := range listed {
		switch x := x.(type) {
		case string:
			parts = append(parts, x)
		case int:
			parts = append(parts, strconv.Itoa(x))
		case []int:
			for _, n := range x {
				parts = append(parts, strconv.Itoa(n))
			}
		}
	}
	return strings.Join(parts, " ")
}
