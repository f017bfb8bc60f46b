package edit

import (
	"iter"

	"deltaworks/api"
	"deltaworks/refuse"
)

// meet yields the steps of two edits in pairs that are about the same value. A step of the first edit of the kind alone, and one of the second edit that puts a value, is about no value of the other edit; it meets the step none, and so does what is left of one edit behind the end of the other one.
func meet(e, f line, alone int) iter.Seq2[step, step] {
	return func(yield func(step, step) bool) {
		i, k := 0, 0
		for i < len(e) || k < len(f) {
			x, y := first(e[i:]), first(f[k:])
			switch {
			case x.kind == alone:
				y = step{kind: none}
			case y.kind == api.EditPut:
				x = step{kind: none}
			}
			if x.kind != none {
				i++
			}
			if y.kind != none {
				k++
			}
			if !yield(x, y) {
				return
			}
		}
	}
}

// first returns the first step of those that are left.
func first(l line) step {
	if len(l) == 0 {
		return step{kind: none}
	}
	return l[0]
}

// table says, by the kinds of two steps that meet, what is done with them.
type table[T any] [none + 1][none + 1]func(T, step, step)

// do does what the table says. Where it says nothing one edit goes on, and the other one is at its end: they are of other lists.
func (t table[T]) do(to T, x, y step) {
	do := t[x.kind][y.kind]
	if do == nil {
		refuse.With(api.ErrState)
	}
	do(to, x, y)
}

// agree refuses two edits that drop another value at one place.
func agree(x, y step) {
	if x != y {
		refuse.With(api.ErrState)
	}
}

// composition is what comes of an edit, and one of the lists that it makes.
type composition struct{ line }

func (c *composition) one(x, _ step) { c.take(x) }

func (c *composition) other(_, y step) { c.take(y) }

// neither takes nothing of what is put and dropped again.
func (c *composition) neither(x, y step) { agree(x.back(), y) }

// composed returns the steps of a composition.
func composed(e, f line) line {
	t := table[*composition]{
		api.EditKeep: {api.EditKeep: (*composition).one, api.EditDrop: (*composition).other},
		api.EditDrop: {none: (*composition).one},
		api.EditPut:  {api.EditKeep: (*composition).one, api.EditDrop: (*composition).neither},
		none:         {api.EditPut: (*composition).other},
	}
	c := &composition{}
	for x, y := range meet(e, f, api.EditDrop) {
		t.do(c, x, y)
	}
	return c.line
}

// behind is an edit as it is behind another one: its steps, and those that come later, which stand behind all others ahead of the next value that both edits keep.
type behind struct {
	line
	later line
}

// end puts the later steps behind the others, as no more of these can come.
func (b *behind) end() {
	pass(b.later, b.take)
	b.later = nil
}

// crossing is two edits of one list, each as it is behind the other one, and how many values the list has that both lead to. Between two values that both keep, all that the first edit puts is ahead of all that the second one puts. So, behind the first edit, what the second one puts comes later; and behind the second edit, all that is kept and dropped comes later than what the first one puts.
type crossing struct {
	second, first behind
	n             int
}

func (c *crossing) keep(x, y step) {
	c.end()
	c.second.take(y)
	c.first.take(x)
	c.n++
}

func (c *crossing) end() {
	c.second.end()
	c.first.end()
}

func (c *crossing) firstDrops(x, _ step) { c.first.later.take(x) }

func (c *crossing) secondDrops(_, y step) { c.second.take(y) }

// bothDrop takes nothing, as neither edit finds the value behind the other one.
func (c *crossing) bothDrop(x, y step) { agree(x, y) }

func (c *crossing) firstPuts(x, _ step) {
	c.second.take(step{kind: api.EditKeep})
	c.first.take(x)
	c.n++
}

func (c *crossing) secondPuts(_, y step) {
	c.second.later.take(y)
	c.first.later.take(step{kind: api.EditKeep})
	c.n++
}

// crossed returns two edits of one list as they cross.
func crossed(e, f line) *crossing {
	t := table[*crossing]{
		api.EditKeep: {api.EditKeep: (*crossing).keep, api.EditDrop: (*crossing).secondDrops},
		api.EditDrop: {api.EditKeep: (*crossing).firstDrops, api.EditDrop: (*crossing).bothDrop},
		api.EditPut:  {none: (*crossing).firstPuts},
		none:         {api.EditPut: (*crossing).secondPuts},
	}
	c := &crossing{}
	for x, y := range meet(e, f, api.EditPut) {
		t.do(c, x, y)
	}
	c.end()
	limit(c.n)
	return c
}
