package query

import "deltaworks/api"

// shape is a view of some kind: whether it is formed; if it is, its row type, or a refusal if there is none; and if it has one, its rows, of relations of which those are made that are ahead of it.
type shape interface {
	isFormed() bool
	rowType() api.Type
	rows(rels []api.Zset) api.Zset
}

// The shapes of all kinds. ViewOnce is made of as much as ViewNeg, and has rows of the same type.
type (
	mapped  struct{ place }
	kept    struct{ place }
	summed  struct{ place }
	negated struct{ place }
	once    struct{ negated }
	joined  struct{ place }
	folded  struct{ place }
	ruled   struct{ place }
)

// place is a view where it stands in a program: the relation that it is, and the relations of its block, from the first one up to ahead of the end. (A view that is no ViewRules is one by itself.)
type place struct {
	*api.View
	in              *program
	rel, first, end int
}

func (v place) shape() shape {
	switch v.Op {
	case api.ViewMap:
		return mapped{v}
	case api.ViewKeep:
		return kept{v}
	case api.ViewSum:
		return summed{v}
	case api.ViewNeg:
		return negated{v}
	case api.ViewOnce:
		return once{negated{v}}
	case api.ViewJoin:
		return joined{v}
	case api.ViewFold:
		return folded{v}
	}
	return ruled{v}
}
