package query_test

import (
	"slices"
	"testing"

	"deltaworks/api"
	"deltaworks/query"
	"deltaworks/zset"
)

// plus and minus return collections added, and a collection negated.
func plus(t *testing.T, l ...api.Zset) api.Zset { return must(zset.Sum(l))(t) }
func minus(t *testing.T, z api.Zset) api.Zset   { return must(zset.Neg(z))(t) }

// answer returns what a program of one view, the relation after all inputs, makes.
func answer(t *testing.T, p api.Prog, ins ...api.Zset) api.Zset {
	t.Helper()
	p.Outs = []int{len(p.Inputs)}
	return must(query.Answers(p, ins))(t)[0]
}

// someViewOf returns a program of inputs, and one view of a kind.
func (m maker) someViewOf(op int) api.Prog {
	for {
		types := []api.Type{m.someType(), m.someType()}
		if v, _ := m.someView(types); v.Op == op {
			p := api.Prog{Inputs: types, Views: []api.View{v}}
			p.Funs = m.someProg().Funs
			return p
		}
	}
}

func TestSums(t *testing.T) { // P6.7: what ViewMap, ViewKeep, ViewSum and ViewNeg make of sums is the sum of what they make
	m := someMaker()
	for _, op := range []int{api.ViewMap, api.ViewKeep, api.ViewSum, api.ViewNeg} {
		for range 300 {
			p := m.someViewOf(op)
			a, b := m.someInputs(p), m.someInputs(p)
			both := must(query.Apply(p, a, b))(t)
			sum := plus(t, answer(t, p, a...), answer(t, p, b...))
			if made := answer(t, p, both...); !same(made, sum) {
				t.Fatalf("%v of %v and %v: %v, not %v", p, a, b, made, sum)
			}
		}
	}
}

func TestJoinsOfSums(t *testing.T) { // P6.7: ViewJoin is so in each of both
	m := someMaker()
	some := 0
	for range 4000 {
		p := m.someViewOf(api.ViewJoin)
		if p.Views[0].From[0] == p.Views[0].From[1] {
			continue
		}
		a, b := m.someInputs(p), m.someInputs(p)
		for n := range a {
			other, both := slices.Clone(a), slices.Clone(a)
			other[n], both[n] = b[n], plus(t, a[n], b[n])
			made, sum := answer(t, p, both...), plus(t, answer(t, p, a...), answer(t, p, other...))
			if !same(made, sum) {
				t.Fatalf("%v of %v and %v in %d: %v, not %v", p, a, b, n, made, sum)
			}
			some += len(made)
		}
	}
	if some < 1000 {
		t.Errorf("only %d rows", some)
	}
}

func TestOnceOfSets(t *testing.T) { // P6.7
	m := someMaker()
	for range 500 {
		u := m.someType()
		p := api.Prog{Inputs: []api.Type{u}, Views: []api.View{onceOf(0), onceOf(1)}, Outs: []int{1, 2}}
		z := m.someRows(u)
		l := must(query.Answers(p, []api.Zset{z}))(t)
		if !same(l[0], l[1]) || !same(l[0], must(zset.Once(z))(t)) || !same(l[0], answer(t, p, l[0])) {
			t.Fatalf("%v of %v", l, z)
		}
	}
}

// someBlockProg returns a program of one block; if it is positive no atom has Not.
func (m maker) someBlockProg(positive bool) api.Prog {
	p := api.Prog{Funs: m.someProg().Funs}
	for range 1 + m.IntN(3) {
		p.Inputs = append(p.Inputs, m.someTuple())
	}
	for range 1 + m.IntN(2) {
		p.Views = m.someBlock(p, p.Inputs)
	}
	if positive {
		for i := range p.Views {
			for k := range p.Views[i].Rules {
				r := &p.Views[i].Rules[k]
				r.Body = slices.DeleteFunc(r.Body, func(a api.Atom) bool { return a.Not })
			}
		}
	}
	return p
}

func TestBlocksHoldRules(t *testing.T) { // P6.7: all that rules make is there, and what is there some rule makes of the rows that are there without it
	m := someMaker()
	some := 0
	for range 4000 {
		p := m.someBlockProg(false)
		o, e := modelOf(p)
		if e != api.OK {
			t.Fatalf("%v: %d", p, e)
		}
		rels := must(query.Eval(p, m.someInputs(p)))(t)
		for i, v := range p.Views {
			z := rels[len(p.Inputs)+i]
			for _, r := range v.Rules {
				for _, row := range o.derived(r, rels) {
					if n := must(zset.Count(z, row))(t); n != 1 {
						t.Fatalf("%v: %v makes %v, which is %d times in %v", p, r, row, n, z)
					}
				}
			}
			for _, x := range z {
				others := slices.Clone(rels)
				others[len(p.Inputs)+i] = plus(t, z, api.Zset{{Row: x.Row, N: -1}})
				isRow := func(row api.Value) bool { return same(row, x.Row) }
				makes := func(r api.Rule) bool { return slices.ContainsFunc(o.derived(r, others), isRow) }
				if some++; !slices.ContainsFunc(v.Rules, makes) {
					t.Fatalf("%v: no rule makes %v of %v", p, x.Row, others)
				}
			}
		}
	}
	if some < 1000 {
		t.Errorf("only %d rows", some)
	}
}

func TestMoreRows(t *testing.T) { // P6.7: without Not, and with more rows of sets, no row is lost
	m := someMaker()
	more := 0
	for range 6000 {
		p := m.someBlockProg(true)
		a, b := m.someInputs(p), m.someInputs(p)
		for i := range a {
			a[i] = must(zset.Once(a[i]))(t)
			b[i] = must(zset.Once(plus(t, a[i], b[i])))(t)
			b[i] = must(zset.Once(plus(t, a[i], b[i])))(t)
		}
		few, many := must(query.Eval(p, a))(t), must(query.Eval(p, b))(t)
		for i := len(a); i < len(few); i++ {
			gained := plus(t, many[i], minus(t, few[i]))
			more += len(gained)
			for _, x := range gained {
				if x.N < 0 {
					t.Fatalf("%v loses %v of %v, with %v", p, x.Row, a, b)
				}
			}
		}
	}
	if more < 500 {
		t.Errorf("only %d rows more", more)
	}
}

func TestViewsThatNobodyReads(t *testing.T) { // P6.7: they make no difference to answers
	m := someMaker()
	for range 1000 {
		p := m.someProg()
		ins := m.someInputs(p)
		types := must(query.Types(p))(t)
		want := must(query.Answers(p, ins))(t)
		more := p
		more.Views = slices.Clone(p.Views)
		for range 1 + m.IntN(3) {
			v, u := m.someView(types)
			more.Views, types = append(more.Views, v), append(types, u)
		}
		more.Views = append(more.Views, m.someBlock(more, types)...)
		if l := must(query.Answers(more, ins))(t); !same(l, want) {
			t.Fatalf("%v of %v: %v; with more views, %v: %v", p, ins, want, more.Views, l)
		}
	}
}

func TestOneMeaning(t *testing.T) { // P6.7, W11: rules, and atoms, in another order, and rules twice, mean the same; so do inputs of which no set has another row
	m := someMaker()
	for range 1500 {
		p := m.someBlockProg(false)
		ins := m.someInputs(p)
		want := must(query.Eval(p, ins))(t)
		other := copied(p)
		for i := range other.Views {
			v := &other.Views[i]
			m.Shuffle(len(v.Rules), func(i, k int) { v.Rules[i], v.Rules[k] = v.Rules[k], v.Rules[i] })
			for _, r := range v.Rules {
				m.Shuffle(len(r.Body), func(i, k int) { r.Body[i], r.Body[k] = r.Body[k], r.Body[i] })
			}
			v.Rules = append(v.Rules, v.Rules[:min(len(v.Rules), 8-len(v.Rules))]...)
		}
		sets := slices.Clone(ins)
		for i := range sets {
			sets[i] = must(zset.Once(ins[i]))(t)
		}
		n := len(p.Inputs)
		if l := must(query.Eval(other, sets))(t); !same(l[n:], want[n:]) {
			t.Fatalf("%v of %v: %v; %v of %v: %v", p, ins, want, other, sets, l)
		}
	}
}

func TestVersionsAddUp(t *testing.T) { // P6.4, P6.5: versions are changes applied, one by one, from nothing on
	m := someMaker()
	for range 500 {
		s := m.setting()
		last := make([]api.Zset, len(s.P.Inputs))
		v := must(query.Versions(s.P, s.Changes))(t)
		if len(v) != len(s.Changes) {
			t.Fatalf("%d versions of %d changes", len(v), len(s.Changes))
		}
		for i, change := range s.Changes {
			next := must(query.Apply(s.P, last, change))(t)
			for n := range last {
				if sum := plus(t, last[n], change[n]); !same(next[n], sum) || !same(v[i][n], sum) {
					t.Fatalf("%v and %v: %v, and %v, not %v", last[n], change[n], next[n], v[i][n], sum)
				}
			}
			last = next
		}
	}
}
