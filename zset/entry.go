package zset

import (
	"slices"
	"strings"

	"deltaworks/api"
	"deltaworks/fresh"
	"deltaworks/refuse"
	"deltaworks/value"
)

// entry is an item, with the key of its row. Keys are in the order of rows, and no two rows have one key: so rows are compared, and found, by their keys alone.
type entry struct {
	key string
	api.Item
}

func (x entry) itsKey() string { return x.key }

// entries are items with their keys. Their rows may stand in the memory of arguments; zset copies them.
type entries []entry

// put puts an item behind the others.
func (l *entries) put(x entry) { *l = append(*l, x) }

// counted returns the same rows, with what of makes of their counts.
func (l entries) counted(of func(int) int) entries {
	c := slices.Clone(l)
	for i := range c {
		c[i].N = of(c[i].N)
	}
	return c
}

// limit refuses more rows than a collection has.
func (l entries) limit() {
	if len(l) > api.RowsMost {
		refuse.With(api.ErrFull)
	}
}

// zset returns the collection of entries that are in order, in new memory. It leaves out those whose count is 0, so only here it is known whether there are too many.
func (l entries) zset() api.Zset {
	z := make(api.Zset, min(len(l), api.RowsMost))
	n := 0
	for _, x := range l {
		if x.N == 0 {
			continue
		}
		if n == len(z) {
			refuse.With(api.ErrFull)
		}
		z[n] = api.Item{Row: fresh.Value(x.Row), N: x.N}
		n++
	}
	return z[:n:n]
}

// read returns the items of a collection with their keys; it refuses one that is not valid.
func read(z api.Zset) entries {
	if len(z) > api.RowsMost {
		refuse.With(api.ErrLong)
	}
	l := make(entries, len(z))
	for i, x := range z {
		l[i] = keyed(x)
		if x.N == 0 || i > 0 && l[i-1].key >= l[i].key {
			refuse.With(api.ErrArg)
		}
	}
	return l
}

func keyed(x api.Item) entry { return entry{keyOf(x.Row), x} }

// keyOf returns the key of a row; it refuses one that is no valid value.
func keyOf(row api.Value) string { return refuse.Unless(value.Key(row)) }

// order is an order of the parts of a list: by their keys.
type order[T any] struct{ key func(T) string }

// byKey returns the order of entries.
func byKey() order[entry] { return order[entry]{entry.itsKey} }

// ordered returns a list in an order, in new memory.
func ordered[T any](l []T, o order[T]) []T {
	return slices.SortedFunc(slices.Values(l), func(a, b T) int { return strings.Compare(o.key(a), o.key(b)) })
}

// place returns where in an ordered list a key stands, or would stand, and whether it is there.
func place[T any](l []T, o order[T], key string) (int, bool) {
	return slices.BinarySearchFunc(l, key, func(x T, key string) int { return strings.Compare(o.key(x), key) })
}
