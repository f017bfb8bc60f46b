package edit

import "deltaworks/api"

// place is how far one has gone in both lists.
type place struct{ a, b int }

// least returns the steps of the least edit of two lists, which are told by the keys of their values.
func least(a, b []string) line {
	cost := costs(a, b)
	var l line
	var at place
	for at.a < len(a) && at.b < len(b) {
		down, right := place{at.a + 1, at.b}, place{at.a, at.b + 1}
		switch {
		case a[at.a] == b[at.b]:
			l.take(step{kind: api.EditKeep})
			at = place{at.a + 1, at.b + 1}
		case cost(down)+1 == cost(at):
			l.take(step{api.EditDrop, a[at.a]})
			at = down
		default:
			l.take(step{api.EditPut, b[at.b]})
			at = right
		}
	}
	return together(l, all(api.EditDrop, a[at.a:]), all(api.EditPut, b[at.b:]))
}

// costs returns a function that says what an edit costs, at the least, of what is left behind a place. Next values that are the same can always be kept: no edit of what is left costs less.
func costs(a, b []string) func(place) int {
	known := map[place]int{}
	var cost func(place) int
	cost = func(at place) int {
		n, found := known[at]
		switch {
		case found:
			return n
		case at.a == len(a) || at.b == len(b):
			return len(a) - at.a + len(b) - at.b
		case a[at.a] == b[at.b]:
			n = cost(place{at.a + 1, at.b + 1})
		default:
			down := cost(place{at.a + 1, at.b})
			right := cost(place{at.a, at.b + 1})
			n = 1 + min(down, right)
		}
		known[at] = n
		return n
	}
	return cost
}
