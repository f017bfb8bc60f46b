package query

import (
	"math/bits"
	"slices"

	"deltaworks/api"
	"deltaworks/calc"
	"deltaworks/lists"
	"deltaworks/value"
)

func (v mapped) isFormed() bool {
	return v.isOf(1, 1) && isFrom(len(v.F), 1, api.MapMost) && v.isBy(slices.Repeat([]int{1}, len(v.F))...)
}

func (v kept) isFormed() bool { return v.isOf(1, 1) && v.isBy(1) }

func (v summed) isFormed() bool { return v.isOf(1, api.SumMost) }

func (v negated) isFormed() bool { return v.isOf(1, 1) }

func (v joined) isFormed() bool { return v.isOf(2, 2) && v.isBy(1, 1, 2) }

func (v folded) isFormed() bool {
	return v.isOf(1, 1) && isFrom(v.N, 0, api.FoldMax) && v.isBy(slices.Repeat([]int{1}, folds()[v.N].exps)...)
}

func (v ruled) isFormed() bool {
	return isType(v.T) && v.T.Kind == api.TypeTuple && len(v.Rules) <= api.RuleMost && lists.Every(v.Rules, v.isRule)
}

// isOf reports whether a view is made of so many relations, at least and at most, all of them ahead of it.
func (v place) isOf(least, most int) bool {
	isAhead := func(rel int) bool { return isFrom(rel, 0, v.rel-1) }
	return isFrom(len(v.From), least, most) && lists.Every(v.From, isAhead)
}

// isBy reports whether a view has as many expressions as there are numbers, each of them formed with so many variables.
func (v place) isBy(vars ...int) bool { return slices.EqualFunc(v.F, vars, v.in.isExp) }

// isExp reports whether an expression is formed. Of which types its variables are makes no difference to that.
func (p *program) isExp(e api.Exp, vars int) bool {
	_, err := calc.TypeOf(p.Funs, make([]api.Type, vars), e)
	return err != api.ErrArg
}

// isRule reports whether a rule is formed: all of its variables stand in atoms without Not, and are the first ones.
func (v ruled) isRule(r api.Rule) bool {
	if len(r.Head) != len(v.T.L) || len(r.Body) > api.AtomMost || len(r.Tests) > api.TestMost {
		return false
	}
	if !lists.Every(r.Head, isTerm) || !lists.Every(r.Body, v.isAtom) {
		return false
	}
	all := variables(r.Head)
	for _, a := range r.Body {
		all |= variables(a.Args)
	}
	isTest := func(e api.Exp) bool { return v.in.isExp(e, bits.OnesCount(uint(all))) }
	return all == bound(r) && all&(all+1) == 0 && lists.Every(r.Tests, isTest)
}

// isAtom reports whether an atom names a relation that it may name, and has terms that are formed.
func (v ruled) isAtom(a api.Atom) bool {
	end := v.end
	if a.Not {
		end = v.first
	}
	return isFrom(a.Rel, 0, end-1) && lists.Every(a.Args, isTerm)
}

func isTerm(t api.Term) bool {
	if t.Var == -1 {
		return value.Check(t.Value) == api.OK
	}
	return isFrom(t.Var, 0, api.VarMost-1)
}

// names is some of the variables of a rule, as bits.
type names int

// variables returns which variables stand in terms.
func variables(terms []api.Term) names {
	var all names
	for _, t := range terms {
		if t.Var >= 0 {
			all |= 1 << t.Var
		}
	}
	return all
}

// bound returns which variables stand in atoms without Not.
func bound(r api.Rule) names {
	var all names
	for _, a := range r.Body {
		if !a.Not {
			all |= variables(a.Args)
		}
	}
	return all
}
