// Package alike is how the layers find out whether types are the same.
package alike

import (
	"slices"

	"deltaworks/api"
	"deltaworks/lists"
	"deltaworks/refuse"
)

// Types reports whether two types are the same. Both must be valid: there is no end to one that contains itself.
func Types(a, b api.Type) bool {
	return a.Kind == b.Kind && slices.EqualFunc(a.L, b.L, Types)
}

// One returns the one type that all are, of which there is at least one; it refuses them if they are not the same.
func One(l ...api.Type) api.Type {
	isSame := func(t api.Type) bool { return Types(t, l[0]) }
	refuse.Demand(lists.Every(l, isSame), api.ErrType)
	return l[0]
}
