package edit

import (
	"iter"
	"slices"

	"deltaworks/api"
	"deltaworks/refuse"
	"deltaworks/value"
)

// step is a piece of an edit with one value, which is told by its key: no two values have one key, so steps are compared as they are. What is kept has no key.
type step struct {
	kind int
	key  string
}

// none is the kind of a step that is not there.
const none = api.EditPut + 1

// back returns the step that leads back.
func (s step) back() step {
	switch s.kind {
	case api.EditDrop:
		s.kind = api.EditPut
	case api.EditPut:
		s.kind = api.EditDrop
	}
	return s
}

// value returns the value of a step that has one, in new memory.
func (s step) value() api.Value { return refuse.Unless(value.OfKey(s.key)) }

// line is steps, one behind the other. What is dropped and put between two values that are kept may stand in any order.
type line []step

func (l *line) take(s step) { *l = append(*l, s) }

// values returns the values of all steps.
func (l line) values() []api.Value {
	values := make([]api.Value, len(l))
	for i, s := range l {
		values[i] = s.value()
	}
	return values
}

// all returns steps of one kind, one for each key.
func all(kind int, keys []string) line {
	l := make(line, len(keys))
	for i, k := range keys {
		l[i] = step{kind, k}
	}
	return l
}

// keys returns the keys of a list; it refuses one that has an error.
func keys(l []api.Value) []string {
	limit(len(l))
	k := make([]string, len(l))
	for i, v := range l {
		k[i] = keyOf(v)
	}
	return k
}

// keyOf returns the key of a value; it refuses one that is not valid.
func keyOf(v api.Value) string { return refuse.Unless(value.Key(v)) }

// limit refuses a list with too many values.
func limit(n int) {
	if n > api.EditMost {
		refuse.With(api.ErrLong)
	}
}

// isChar reports whether a value is a byte of a text, as a word.
func isChar(v api.Value) bool {
	return value.Check(v) == api.OK && v.Kind == api.ValueInt && v.N >= 32 && v.N <= 126
}

// read returns the steps of an edit; it refuses one that has an error. As a piece can keep any number of values, and be followed by any number of others, it leaves the steps where they are too many.
func read(e []api.EditPiece) line {
	valid(e)
	var l line
	of, makes := 0, 0
walk:
	for s := range steps(e) {
		switch s.kind {
		case api.EditKeep:
			of, makes = of+1, makes+1
		case api.EditDrop:
			of++
		case api.EditPut:
			makes++
		}
		if max(of, makes) > api.EditMost {
			break walk
		}
		l.take(s)
	}
	limit(max(of, makes))
	return l
}

// valid refuses an edit that is not valid.
func valid(e []api.EditPiece) {
	last := none
	for _, p := range e {
		if !fits(p) || p.Kind == last || p.Kind == api.EditDrop && last == api.EditPut {
			refuse.With(api.ErrArg)
		}
		last = p.Kind
	}
}

// fits reports whether a piece, taken alone, is one of an edit.
func fits(p api.EditPiece) bool {
	switch p.Kind {
	case api.EditKeep:
		return p.N >= 1 && len(p.L) == 0
	case api.EditDrop, api.EditPut:
		return p.N == 0 && len(p.L) > 0 && !slices.ContainsFunc(p.L, func(v api.Value) bool { return value.Check(v) != api.OK })
	}
	return false
}

// steps yields the steps of an edit that is valid.
func steps(e []api.EditPiece) iter.Seq[step] {
	return func(yield func(step) bool) {
		for _, p := range e {
			for range p.N {
				if !yield(step{kind: api.EditKeep}) {
					return
				}
			}
			for _, v := range p.L {
				if !yield(step{p.Kind, keyOf(v)}) {
					return
				}
			}
		}
	}
}
