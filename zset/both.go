package zset

import (
	"iter"
	"strings"

	"deltaworks/api"
)

// had is how often each of two collections has a row.
type had struct{ first, second int }

func (h had) sum() int { return h.first + h.second }

// flip returns what is added to Once of the first collection, to have Once of the sum.
func (h had) flip() int { return there(h.sum()) - there(h.first) }

// alike reports whether both have the row as often: then it makes no difference which one is the first.
func (h had) alike() bool { return h == had{first: h.second, second: h.first} }

// both yields each row that one of two collections has, in order, with how often each of them has it. The count of the entry has no meaning.
func both(a, b entries) iter.Seq2[entry, had] {
	return func(yield func(entry, had) bool) {
		i, k := 0, 0
		for i < len(a) || k < len(b) {
			var x entry
			var h had
			which := ahead(a[i:], b[k:])
			if which >= 0 {
				x, h.second = b[k], b[k].N
				k++
			}
			if which <= 0 {
				x, h.first = a[i], a[i].N
				i++
			}
			if !yield(x, h) {
				return
			}
		}
	}
}

// ahead returns -1 if the first row of a comes next, 1 if that of b does, 0 if they are the same. One of both lists may be at its end.
func ahead(a, b entries) int {
	switch {
	case len(a) == 0:
		return 1
	case len(b) == 0:
		return -1
	}
	return strings.Compare(a[0].key, b[0].key)
}

// merge returns the rows of two collections, each as often as of says of what both have of it. It ends with one row too many for a collection: more of them make no difference.
func merge(a, b entries, of func(had) int) entries {
	var l entries
walk:
	for x, h := range both(a, b) {
		x.N = of(h)
		switch {
		case x.N == 0:
			continue walk
		case len(l) > api.RowsMost:
			break walk
		}
		l.put(x)
	}
	return l
}
