// Package lists is what the layers ask of whole lists, and make of them.
package lists

import "slices"

// Every reports whether something is so of all parts of a list.
func Every[L ~[]T, T any](l L, so func(T) bool) bool {
	return !slices.ContainsFunc(l, func(x T) bool { return !so(x) })
}

// Each returns what of makes of each part of a list.
func Each[A, B any](l []A, of func(A) B) []B {
	made := make([]B, len(l))
	for i, x := range l {
		made[i] = of(x)
	}
	return made
}
