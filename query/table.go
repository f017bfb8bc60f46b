package query

import (
	"iter"

	"deltaworks/api"
	"deltaworks/refuse"
	"deltaworks/value"
)

// mark is what values are compared by: of a word its number, of any other value its key, which is not empty.
type mark struct {
	word int
	key  string
}

func markOf(v api.Value) mark {
	if v.Kind == api.ValueInt {
		return mark{word: v.N}
	}
	return mark{key: refuse.Unless(value.Key(v))}
}

// numbers gives numbers to values, from 0 on, in the order in which they come: the same one each time that a value comes.
type numbers struct {
	of     map[mark]int
	values []api.Value
}

func (l *numbers) number(v api.Value) int {
	if l.of == nil {
		l.of = map[mark]int{}
	}
	m := markOf(v)
	n, found := l.of[m]
	if !found {
		n = len(l.values)
		l.of[m] = n
		l.values = append(l.values, v)
	}
	return n
}

func (l *numbers) value(number int) api.Value { return l.values[number] }

// table is values, and for each of them an entry.
type table[T any] struct {
	numbers
	entries []T
}

// at returns the entry of a value, which is a zero value if this comes for the first time. It stands there until the next one comes.
func (t *table[T]) at(v api.Value) *T {
	n := t.number(v)
	if n == len(t.entries) {
		t.entries = append(t.entries, *new(T))
	}
	return &t.entries[n]
}

// all yields all values, with their entries.
func (t *table[T]) all() iter.Seq2[api.Value, T] {
	return func(yield func(api.Value, T) bool) {
		for n, x := range t.entries {
			if !yield(t.values[n], x) {
				return
			}
		}
	}
}
