package query

import (
	"slices"

	"deltaworks/api"
	"deltaworks/calc"
	"deltaworks/fresh"
	"deltaworks/lists"
	"deltaworks/refuse"
	"deltaworks/value"
	"deltaworks/zset"
)

// program is a program that is checked: with the places of its views, and the row types of its relations, as far as they are found.
type program struct {
	api.Prog
	places []place
	types  []api.Type
}

// checked returns a program; it refuses one that is not formed, and then one without types.
func checked(p api.Prog) *program {
	c := &program{Prog: p}
	funs := calc.Check(p.Funs)
	refuse.Demand(funs != api.ErrArg && c.hasNumbers(), api.ErrArg)
	for i := range p.Views {
		c.places = append(c.places, c.place(i))
	}
	isFormed := func(v place) bool { return v.shape().isFormed() }
	refuse.Demand(lists.Every(c.places, isFormed), api.ErrArg)
	refuse.Demand(funs == api.OK, api.ErrType)
	c.types = slices.Clone(p.Inputs)
	for _, v := range c.places {
		t := v.shape().rowType()
		c.types = append(c.types, t)
	}
	return c
}

// hasNumbers reports whether there are as many inputs, views and answers as there may be, inputs have types, and views kinds, and answers are relations.
func (p *program) hasNumbers() bool {
	isRelation := func(n int) bool { return isFrom(n, 0, len(p.Inputs)+len(p.Views)-1) }
	return isFrom(len(p.Inputs), 1, api.ProgInputs) && lists.Every(p.Inputs, isType) &&
		len(p.Views) <= api.ProgViews && lists.Every(p.Views, hasKind) &&
		len(p.Outs) <= api.ProgOuts && lists.Every(p.Outs, isRelation)
}

func isFrom(n, low, high int) bool { return n >= low && n <= high }

func isType(t api.Type) bool { return value.Type(t) == api.OK }

func hasKind(v api.View) bool { return isFrom(v.Op, 0, api.ViewRules) }

// place returns where a view stands.
func (p *program) place(view int) place {
	first, end := view, view+1
	for first > 0 && areOneBlock(p.Views[first-1], p.Views[first]) {
		first--
	}
	for end < len(p.Views) && areOneBlock(p.Views[end-1], p.Views[end]) {
		end++
	}
	inputs := len(p.Inputs)
	return place{&p.Views[view], p, inputs + view, inputs + first, inputs + end}
}

// areOneBlock reports whether two views, one directly behind the other, are of one block.
func areOneBlock(a, b api.View) bool {
	return a.Op == api.ViewRules && b.Op == api.ViewRules && a.N == b.N
}

// views returns the places of the views that relations are, from one of them up to ahead of another one.
func (p *program) views(first, end int) []place {
	inputs := len(p.Inputs)
	return p.places[first-inputs : end-inputs]
}

// typeOf returns the row type of a relation. Rules ask for those of their own block before they are found: they stand in its views.
func (p *program) typeOf(rel int) api.Type {
	if rel < len(p.types) {
		return p.types[rel]
	}
	return p.views(rel, rel+1)[0].T
}

func (p *program) rowTypes() []api.Type { return fresh.List(p.types, fresh.Type) }

// blocks returns which relations each block has.
func (p *program) blocks() [][]int {
	var blocks [][]int
	for _, v := range p.places {
		if v.Op != api.ViewRules {
			continue
		}
		if v.rel == v.first {
			blocks = append(blocks, nil)
		}
		last := &blocks[len(blocks)-1]
		*last = append(*last, v.rel)
	}
	return blocks
}

// demandInputs refuses lists unless each of them has a collection for each input, of rows of its type.
func (p *program) demandInputs(all ...[]api.Zset) {
	for _, ins := range all {
		refuse.Demand(slices.EqualFunc(ins, p.Inputs, isOf), api.ErrRange)
	}
}

func isOf(z api.Zset, t api.Type) bool { return zset.Typed(z, t) == api.OK }

// relations returns all relations for inputs. They may share memory with these.
func (p *program) relations(ins []api.Zset) []api.Zset {
	p.demandInputs(ins)
	rels := make([]api.Zset, len(p.types))
	copy(rels, ins)
	for _, v := range p.places {
		rels[v.rel] = v.shape().rows(rels)
	}
	return rels
}
