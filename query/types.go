package query

import (
	"math/bits"
	"slices"

	"deltaworks/alike"
	"deltaworks/api"
	"deltaworks/calc"
	"deltaworks/lists"
	"deltaworks/refuse"
	"deltaworks/value"
)

func (v mapped) rowType() api.Type { return alike.One(v.ofEach()...) }

func (v kept) rowType() api.Type {
	demandWord(v.ofEach()[0])
	return v.row(0)
}

func (v summed) rowType() api.Type { return alike.One(lists.Each(v.From, v.in.typeOf)...) }

func (v negated) rowType() api.Type { return v.row(0) }

func (v joined) rowType() api.Type {
	first, second := v.row(0), v.row(1)
	alike.One(v.in.typed(v.F[0], first), v.in.typed(v.F[1], second))
	return v.in.typed(v.F[2], first, second)
}

func (v folded) rowType() api.Type {
	l := v.ofEach()
	for _, t := range l[1:] {
		demandWord(t)
	}
	made := api.Type{Kind: api.TypeTuple, L: []api.Type{l[0], {Kind: api.TypeInt}}}
	refuse.Demand(isType(made), api.ErrType)
	return made
}

// rowType returns the type that the view names; it refuses rules that are not typed.
func (v ruled) rowType() api.Type {
	for _, r := range v.Rules {
		vars := v.varTypes(r)
		for _, e := range r.Tests {
			demandWord(v.in.typed(e, vars...))
		}
	}
	return v.T
}

// row returns the row type of one of the relations that a view is made of.
func (v place) row(from int) api.Type { return v.in.typeOf(v.From[from]) }

// ofEach returns the types of all expressions of a view, of which each has a row of the first relation as its variable.
func (v place) ofEach() []api.Type {
	return lists.Each(v.F, func(e api.Exp) api.Type { return v.in.typed(e, v.row(0)) })
}

// typed returns the type of a formed expression; it refuses one that has none.
func (p *program) typed(e api.Exp, vars ...api.Type) api.Type {
	return refuse.Unless(calc.TypeOf(p.Funs, vars, e))
}

func demandWord(t api.Type) { refuse.Demand(t.Kind == api.TypeInt, api.ErrType) }

// varTypes returns the types of the variables of a rule; it refuses terms that do not have the types of their places.
func (v ruled) varTypes(r api.Rule) []api.Type {
	found := typing{}
	for _, a := range r.Body {
		found.take(a.Args, v.in.typeOf(a.Rel))
	}
	found.take(r.Head, v.T)
	types := make([]api.Type, bits.OnesCount(uint(bound(r))))
	for n, t := range found {
		types[n] = t
	}
	return types
}

// typing is the types of variables, as far as they are found.
type typing map[int]api.Type

// take finds the types of variables among terms that are the parts of a row.
func (f typing) take(terms []api.Term, row api.Type) {
	refuse.Demand(row.Kind == api.TypeTuple && slices.EqualFunc(terms, row.L, f.isOf), api.ErrType)
}

// isOf reports whether a term may stand where rows have parts of a type; from the first place of a variable on it is known which one this has.
func (f typing) isOf(t api.Term, place api.Type) bool {
	if t.Var < 0 {
		return value.Is(t.Value, place)
	}
	if known, found := f[t.Var]; found {
		return alike.Types(known, place)
	}
	f[t.Var] = place
	return true
}
