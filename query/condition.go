package query

import (
	"iter"
	"math"
	"math/bits"

	"deltaworks/api"
)

// binding is the values of the variables of a rule, by their numbers. What is not known is 0, and what is not needed any more.
type binding [api.VarMost]int

// without returns a binding in which some variables are 0.
func (b binding) without(some names) binding {
	for n := range b {
		if some>>n&1 == 1 {
			b[n] = 0
		}
	}
	return b
}

// part is a term: a variable, or, with -1, the value with a number.
type part struct{ variable, number int }

// names returns the variable that a part is, if it is one.
func (p part) names() names {
	if p.variable < 0 {
		return 0
	}
	return 1 << p.variable
}

func namesOf(parts []part) names {
	var all names
	for _, p := range parts {
		all |= p.names()
	}
	return all
}

func (p part) isKnown(known names) bool { return p.names()&^known == 0 }

// in returns the number of the value of a part.
func (p part) in(b binding) int {
	if p.variable < 0 {
		return p.number
	}
	return b[p.variable]
}

// condition is an atom, or a test, of a rule. It names variables; the greater its rank is where some of them are known, the sooner it is looked at; and it holds in so many ways, with those that are known as they are, and others as they can be.
type condition interface {
	names() names
	rank(known names) int
	matches(b binding, known names) iter.Seq[binding]
}

// present is an atom without Not, of rows that are looked up among so many.
type present struct {
	parts []part
	find  func(lookup) []row
	size  int
}

func (a present) names() names { return namesOf(a.parts) }

// asked returns what is looked up: rows with what is known at its places.
func (a present) asked(b binding, known names) lookup {
	var l lookup
	for i, p := range a.parts {
		if p.isKnown(known) {
			l.places |= 1 << i
			l.row[i] = p.in(b)
		}
	}
	return l
}

// rank prefers atoms of which more places are known, and of these the ones with fewer rows.
func (a present) rank(known names) int {
	places := a.asked(binding{}, known).places
	return bits.OnesCount(uint(places))*(api.RowsMost+1) - a.size
}

func (a present) matches(b binding, known names) iter.Seq[binding] {
	return func(yield func(binding) bool) {
	rows:
		for _, r := range a.find(a.asked(b, known)) {
			next, have := b, known
			for i, p := range a.parts {
				if !p.isKnown(have) {
					have |= p.names()
					next[p.variable] = r[i]
				}
				if p.in(next) != r[i] {
					continue rows
				}
			}
			if !yield(next) {
				return
			}
		}
	}
}

// absent is an atom with Not.
type absent struct{ present }

func (a absent) rank(known names) int { return ready(a.names(), known) }

func (a absent) matches(b binding, known names) iter.Seq[binding] {
	return func(yield func(binding) bool) {
		holds := true
	look:
		for range a.present.matches(b, known) {
			holds = false
			break look
		}
		if holds {
			yield(b)
		}
	}
}

// test is an expression of the values of the variables that it reads.
type test struct {
	reads []int
	value func(number int) api.Value
	of    function
}

func (t test) names() names {
	var all names
	for _, n := range t.reads {
		all |= 1 << n
	}
	return all
}

func (t test) rank(known names) int { return ready(t.names(), known) }

func (t test) matches(b binding, _ names) iter.Seq[binding] {
	return func(yield func(binding) bool) {
		var l []api.Value
		for _, n := range t.reads {
			l = append(l, t.value(b[n]))
		}
		if t.of(l...).N != 0 {
			yield(b)
		}
	}
}

// ready is the rank of what makes no variable known: ahead of all else where all of its own are known, and behind it where they are not.
func ready(own, known names) int {
	if own&^known == 0 {
		return math.MaxInt
	}
	return math.MinInt
}
