// Package value is layer 1: see shared/doc/01-value.md.
package value

import (
	"cmp"
	"iter"
	"slices"
	"strings"

	"deltaworks/api"
)

// Type checks a type (P1.1).
func Type(t api.Type) api.Errno {
	if count(t, api.TypeMost, api.TypeDeep, typeFits, typeParts) == 0 {
		return api.ErrArg
	}
	return api.OK
}

// Check checks a value (P1.1).
func Check(v api.Value) api.Errno {
	_, e := Size(v)
	return e
}

// Is reports whether a value is of a type (P1.2).
func Is(v api.Value, t api.Type) bool {
	if Check(v) != api.OK || Type(t) != api.OK {
		return false
	}
	is := true
walk:
	for x, y := range pairs(v, t) {
		switch {
		case x.Kind != kindOf(y), x.Kind == api.ValueTuple && len(x.L) != len(y.L), x.Kind == api.ValueTag && x.N >= len(y.L):
			is = false
			break walk
		}
	}
	return is
}

// Size returns how many values are in a value (P1.2).
func Size(v api.Value) (int, api.Errno) {
	table := kinds()
	fits := func(v api.Value) bool {
		return v.Kind >= 0 && v.Kind < len(table) && table[v.Kind].fits(node(v))
	}
	n := count(v, api.ValueMost, api.ValueDeep, fits, valueParts)
	if n == 0 {
		return 0, api.ErrArg
	}
	return n, api.OK
}

// Compare returns which of two values is ahead (P1.3).
func Compare(a, b api.Value) (int, api.Errno) {
	if Check(a) != api.OK || Check(b) != api.OK {
		return 0, api.ErrArg
	}
	return order(a, b), api.OK
}

// order compares valid values. One comparison serves all kinds: the fields that a kind does not use are the same in both.
func order(a, b api.Value) int {
	if n := cmp.Or(cmp.Compare(a.Kind, b.Kind), cmp.Compare(a.N, b.N), strings.Compare(a.S, b.S)); n != 0 {
		return n
	}
	return slices.CompareFunc(a.L, b.L, order)
}

// Least returns the first value of a type (P1.4).
func Least(t api.Type) (api.Value, api.Errno) {
	if e := Type(t); e != api.OK {
		return api.Value{}, e
	}
	return least(t), api.OK
}

func least(t api.Type) api.Value {
	switch t.Kind {
	case api.TypeText:
		return api.Value{Kind: api.ValueText}
	case api.TypeTuple:
		l := make([]api.Value, len(t.L))
		for i, part := range t.L {
			l[i] = least(part)
		}
		return api.Value{Kind: api.ValueTuple, L: l}
	case api.TypeSum:
		return api.Value{Kind: api.ValueTag, L: together(least(t.L[0]))}
	}
	return api.Value{Kind: api.ValueInt, N: api.WordLow}
}

// count returns how many nodes a tree has, itself too; 0 if they are more than most, or more than deepest one within the other, or if one does not fit. A node is looked at ahead of its parts, and the walk ends with the first error, so it also leaves a tree whose memory contains itself.
func count[T any](tree T, most, deepest int, fits func(T) bool, parts func(T) []T) int {
	n := 0
	var walk func(x T, deep int) bool
	walk = func(x T, deep int) bool {
		n++
		if n > most || deep > deepest || !fits(x) {
			return false
		}
		for _, part := range parts(x) {
			if !walk(part, deep+1) {
				return false
			}
		}
		return true
	}
	if !walk(tree, 1) {
		return 0
	}
	return n
}

func valueParts(v api.Value) []api.Value { return v.L }

func typeParts(t api.Type) []api.Type { return t.L }

// pairs yields a valid value with a valid type, and then their parts, each value with the type of its place. Whoever ranges must leave at a pair that does not go together, because the parts of one have no places in the other.
func pairs(v api.Value, t api.Type) iter.Seq2[api.Value, api.Type] {
	return func(yield func(api.Value, api.Type) bool) {
		var walk func(v api.Value, t api.Type) bool
		walk = func(v api.Value, t api.Type) bool {
			if !yield(v, t) {
				return false
			}
			for i, part := range v.L {
				place := i
				if v.Kind == api.ValueTag {
					place = v.N
				}
				if !walk(part, t.L[place]) {
					return false
				}
			}
			return true
		}
		walk(v, t)
	}
}

// together returns a list of just these parts, in new memory.
func together[T any](parts ...T) []T {
	l := make([]T, len(parts))
	copy(l, parts)
	return l
}
