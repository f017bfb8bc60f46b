package query

import (
	"slices"

	"deltaworks/api"
	"deltaworks/calc"
	"deltaworks/lists"
	"deltaworks/refuse"
	"deltaworks/zset"
)

// block is a block whose relations are being made, of those ahead of it: the parts of all rows have numbers. Some rules name relations of the block, the others do not.
type block struct {
	numbers
	rels          []api.Zset
	relations     []*relation
	first         int
	others, again []plan
}

// rows makes all relations of a block where its first view is asked for; the others are there then.
func (v ruled) rows(rels []api.Zset) api.Zset {
	if v.rel == v.first {
		copy(rels[v.first:], v.least(rels))
	}
	return rels[v.rel]
}

// least returns the relations of a block: what rules make of rows that they have not seen is added, until nothing is new.
func (v ruled) least(rels []api.Zset) []api.Zset {
	b := &block{rels: rels, relations: make([]*relation, v.end), first: v.first}
	views := v.in.views(v.first, v.end)
	for _, view := range views {
		for _, r := range view.Rules {
			b.take(ruled{view}, r)
		}
	}
	for _, p := range b.others {
		p.run()
	}
	for b.turn() {
		for _, p := range b.again {
			p.run()
		}
	}
	return lists.Each(views, b.made)
}

// relation returns a relation that rules name, with the rows that it has; one of the block has none at first.
func (b *block) relation(rel int) *relation {
	if b.relations[rel] == nil {
		l := &relation{found: map[lookup][]row{}}
		for _, x := range b.rels[rel] {
			if x.N > 0 {
				l.rows = append(l.rows, rowOf(x.Row.L, b.number))
			}
		}
		b.relations[rel] = l
	}
	return b.relations[rel]
}

// turn lets those rows be new that came since the last turn, and reports whether there are any.
func (b *block) turn() bool {
	turned := false
	for _, l := range b.relations[b.first:] {
		if l != nil && l.turn() {
			turned = true
		}
	}
	return turned
}

// made returns the relation of a view, with the rows that were made.
func (b *block) made(v place) api.Zset {
	items := lists.Each(b.relation(v.rel).rows, func(r row) api.Item {
		parts := lists.Each(r[:len(v.T.L)], b.value)
		return api.Item{Row: tuple(parts...), N: 1}
	})
	return refuse.Unless(zset.Make(items))
}

// take makes plans of a rule: one for each atom that is of the block, which looks at what is new there first; or just one, if none is.
func (b *block) take(v ruled, r api.Rule) {
	l := append(lists.Each(r.Body, b.atom), b.tests(v, r)...)
	head, into := lists.Each(r.Head, b.part), b.relation(v.rel)
	recursive := false
	for n, a := range r.Body {
		if a.Rel < b.first {
			continue
		}
		recursive = true
		news := slices.Clone(l)
		news[n] = present{parts: lists.Each(a.Args, b.part), find: b.relation(a.Rel).news}
		b.again = append(b.again, planned(news, n, head, into))
	}
	if !recursive {
		b.others = append(b.others, planned(l, best(l, 0), head, into))
	}
}

func (b *block) part(t api.Term) part {
	if t.Var < 0 {
		return part{t.Var, b.number(t.Value)}
	}
	return part{variable: t.Var}
}

func (b *block) atom(a api.Atom) condition {
	l := b.relation(a.Rel)
	found := present{lists.Each(a.Args, b.part), l.find, len(l.rows)}
	if a.Not {
		return absent{found}
	}
	return found
}

// tests returns the tests of a rule, each one as an expression of those variables alone that it reads: the others may not be known yet.
func (b *block) tests(v ruled, r api.Rule) []condition {
	types := v.varTypes(r)
	return lists.Each(r.Tests, func(e api.Exp) condition {
		reads := refuse.Unless(calc.Uses(e, len(types)))
		read := slices.Repeat([]api.Exp{{Op: api.ExpInt}}, len(types))
		for n, name := range reads {
			read[name] = api.Exp{Op: api.ExpVar, N: n}
		}
		alone := refuse.Unless(calc.Put(e, read, len(reads)))
		return test{reads, b.value, v.in.function(alone, picked(types, reads)...)}
	})
}
