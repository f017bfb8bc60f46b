package query_test

import (
	"math/rand/v2"
	"reflect"
	"slices"
	"testing"

	"deltaworks/api"
	"deltaworks/calc"
	"deltaworks/query"
	"deltaworks/value"
	"deltaworks/zset"
)

// model is what the chapter says of a program, case by case: from and to are the ends of the block of each view.
type model struct {
	api.Prog
	from, to []int
	types    []api.Type
}

func modelOf(p api.Prog) (*model, api.Errno) {
	m := &model{Prog: p}
	if !m.isFormed() {
		return m, api.ErrArg
	}
	if calc.Check(p.Funs) != api.OK {
		return m, api.ErrType
	}
	m.types = slices.Clone(p.Inputs)
	for _, v := range p.Views { // rules name types, which are known ahead of the others
		if v.Op == api.ViewRules {
			m.types = append(m.types, v.T)
		} else {
			m.types = append(m.types, api.Type{Kind: -1})
		}
	}
	for i, v := range p.Views {
		t, ok := m.typeOf(i, v)
		if !ok || value.Type(t) != api.OK {
			return m, api.ErrType
		}
		m.types[len(p.Inputs)+i] = t
	}
	return m, api.OK
}

func (m *model) isFormed() bool {
	if calc.Check(m.Funs) == api.ErrArg || len(m.Inputs) == 0 || len(m.Inputs) > 8 || len(m.Views) > 40 || len(m.Outs) > 8 {
		return false
	}
	for _, t := range m.Inputs {
		if value.Type(t) != api.OK {
			return false
		}
	}
	all := len(m.Inputs) + len(m.Views)
	for _, n := range m.Outs {
		if n < 0 || n >= all {
			return false
		}
	}
	for i := range m.Views {
		from, to := i, i+1
		isSame := func(k int) bool {
			return m.Views[k].Op == api.ViewRules && m.Views[i].Op == api.ViewRules && m.Views[k].N == m.Views[i].N
		}
		for ; from > 0 && isSame(from-1); from-- {
		}
		for ; to < len(m.Views) && isSame(to); to++ {
		}
		m.from, m.to = append(m.from, from+len(m.Inputs)), append(m.to, to+len(m.Inputs))
	}
	for i, v := range m.Views {
		if !m.formed(i, v) {
			return false
		}
	}
	return true
}

func (m *model) formed(i int, v api.View) bool {
	rel := len(m.Inputs) + i
	from, vars := []int{1, 1}, []int{}
	switch v.Op {
	case api.ViewMap:
		vars = slices.Repeat([]int{1}, max(1, min(4, len(v.F))))
	case api.ViewKeep:
		vars = []int{1}
	case api.ViewSum:
		from[1] = 6
	case api.ViewNeg, api.ViewOnce:
	case api.ViewJoin:
		from, vars = []int{2, 2}, []int{1, 1, 2}
	case api.ViewFold:
		if v.N < 0 || v.N > 3 {
			return false
		}
		vars = slices.Repeat([]int{1}, min(v.N, 1)+1)
	case api.ViewRules:
		if value.Type(v.T) != api.OK || v.T.Kind != api.TypeTuple || len(v.Rules) > 8 {
			return false
		}
		for _, r := range v.Rules {
			if !m.formedRule(i, v, r) {
				return false
			}
		}
		return true
	default:
		return false
	}
	if len(v.From) < from[0] || len(v.From) > from[1] {
		return false
	}
	for _, n := range v.From {
		if n < 0 || n >= rel {
			return false
		}
	}
	if v.Op == api.ViewSum || v.Op == api.ViewNeg || v.Op == api.ViewOnce {
		return true
	}
	return slices.EqualFunc(v.F, vars, m.formedExp)
}

func (m *model) formedExp(e api.Exp, vars int) bool {
	_, f := calc.TypeOf(m.Funs, make([]api.Type, vars), e)
	return f != api.ErrArg
}

func (m *model) formedRule(i int, v api.View, r api.Rule) bool {
	if len(r.Head) != len(v.T.L) || len(r.Body) > 6 || len(r.Tests) > 4 {
		return false
	}
	all, bound := map[int]bool{}, map[int]bool{}
	isTerm := func(t api.Term) bool {
		all[t.Var] = true
		return t.Var >= 0 && t.Var <= 11 || t.Var == -1 && value.Check(t.Value) == api.OK
	}
	for _, t := range r.Head {
		if !isTerm(t) {
			return false
		}
	}
	for _, a := range r.Body {
		if a.Rel < 0 || a.Rel >= m.to[i] || a.Not && a.Rel >= m.from[i] {
			return false
		}
		for _, t := range a.Args {
			if !isTerm(t) {
				return false
			}
			if !a.Not {
				bound[t.Var] = true
			}
		}
	}
	delete(all, -1)
	delete(bound, -1)
	for n := range all {
		if n >= len(all) || !bound[n] {
			return false
		}
	}
	for _, e := range r.Tests {
		if !m.formedExp(e, len(all)) {
			return false
		}
	}
	return true
}

func (m *model) typeOf(i int, v api.View) (api.Type, bool) {
	var of []api.Type
	if v.Op != api.ViewRules {
		for _, n := range v.From {
			of = append(of, m.types[n])
		}
	}
	var l []api.Type
	for k, e := range v.F {
		vars := of
		switch {
		case v.Op == api.ViewRules || v.Op == api.ViewSum || v.Op == api.ViewNeg || v.Op == api.ViewOnce:
			continue
		case v.Op == api.ViewJoin && k < 2:
			vars = of[k : k+1]
		}
		t, f := calc.TypeOf(m.Funs, vars, e)
		if f != api.OK {
			return t, false
		}
		l = append(l, t)
	}
	isWord := func(t api.Type) bool { return t.Kind == api.TypeInt }
	isFirst := func(l []api.Type) bool {
		return !slices.ContainsFunc(l, func(t api.Type) bool { return !same(t, l[0]) })
	}
	switch v.Op {
	case api.ViewMap:
		return l[0], isFirst(l)
	case api.ViewKeep:
		return of[0], isWord(l[0])
	case api.ViewSum:
		return of[0], isFirst(of)
	case api.ViewJoin:
		return l[2], same(l[0], l[1])
	case api.ViewFold:
		return api.Type{Kind: api.TypeTuple, L: []api.Type{l[0], {}}}, len(l) == 1 || isWord(l[1])
	case api.ViewRules:
		for _, r := range v.Rules {
			if !m.typedRule(v, r) {
				return v.T, false
			}
		}
		return v.T, true
	}
	return of[0], true
}

func (m *model) typedRule(v api.View, r api.Rule) bool {
	vars := map[int]api.Type{}
	fits := func(t api.Term, u api.Type) bool {
		if t.Var < 0 {
			return value.Is(t.Value, u)
		}
		if _, found := vars[t.Var]; !found {
			vars[t.Var] = u
		}
		return same(vars[t.Var], u)
	}
	for _, a := range r.Body {
		if u := m.types[a.Rel]; u.Kind != api.TypeTuple || !slices.EqualFunc(a.Args, u.L, fits) {
			return false
		}
	}
	if !slices.EqualFunc(r.Head, v.T.L, fits) {
		return false
	}
	types := make([]api.Type, len(vars))
	for n, t := range vars {
		types[n] = t
	}
	for _, e := range r.Tests {
		if t, f := calc.TypeOf(m.Funs, types, e); f != api.OK || t.Kind != api.TypeInt {
			return false
		}
	}
	return true
}

// eval returns all relations, without a look at how many rows they have.
func (m *model) eval(ins []api.Zset) []api.Zset {
	rels := slices.Clone(ins)
	for i, v := range m.Views {
		switch {
		case v.Op != api.ViewRules:
			rels = append(rels, m.made(v, rels))
		case m.from[i] == len(rels):
			rels = append(rels, m.block(m.from[i], m.to[i], rels)...)
		}
	}
	return rels
}

// value returns what an expression of a view makes of rows.
func (m *model) value(e api.Exp, from []int, rows ...api.Value) api.Value {
	var vars []api.Type
	for _, n := range from {
		vars = append(vars, m.types[n])
	}
	v, f := calc.Eval(m.Funs, vars, rows, e)
	if f != api.OK {
		panic(f)
	}
	return v
}

// made returns the rows of a view that is no ViewRules.
func (m *model) made(v api.View, rels []api.Zset) api.Zset {
	var l []api.Item
	put := func(row api.Value, n int) { l = append(l, api.Item{Row: row, N: n}) }
	for k, n := range v.From {
		for _, x := range rels[n] {
			switch v.Op {
			case api.ViewMap:
				for _, e := range v.F {
					put(m.value(e, v.From, x.Row), x.N)
				}
			case api.ViewKeep:
				if m.value(v.F[0], v.From, x.Row).N != 0 {
					put(x.Row, x.N)
				}
			case api.ViewSum:
				put(x.Row, x.N)
			case api.ViewNeg:
				put(x.Row, -x.N)
			case api.ViewOnce:
				if x.N > 0 {
					put(x.Row, 1)
				}
			case api.ViewJoin:
				if k == 0 {
					for _, y := range rels[v.From[1]] {
						if same(m.value(v.F[0], v.From[:1], x.Row), m.value(v.F[1], v.From[1:], y.Row)) {
							put(m.value(v.F[2], v.From, x.Row, y.Row), x.N*y.N)
						}
					}
				}
			case api.ViewFold:
				key := m.value(v.F[0], v.From, x.Row)
				if n, is := m.folded(v, key, rels[n]); is {
					put(api.Value{Kind: api.ValueTuple, L: []api.Value{key, {N: n}}}, 1)
				}
			}
		}
	}
	z, _ := zset.Make(l)
	if v.Op == api.ViewFold { // each row made that of its group
		z, _ = zset.Once(z)
	}
	return z
}

// folded returns the word of the group with a key.
func (m *model) folded(v api.View, key api.Value, z api.Zset) (int, bool) {
	n, is := 0, v.N < api.FoldMin
	for _, x := range z {
		if !same(m.value(v.F[0], v.From, x.Row), key) {
			continue
		}
		switch {
		case v.N == api.FoldCount:
			n += x.N
			continue
		case v.N == api.FoldSum:
			n += x.N * m.value(v.F[1], v.From, x.Row).N
		case x.N > 0:
			word := m.value(v.F[1], v.From, x.Row).N
			if !is || v.N == api.FoldMin && word < n || v.N == api.FoldMax && word > n {
				n, is = word, true
			}
		}
	}
	return int(int32(n)), is
}

// block returns the relations of a block: all rules are held against all rows that are there, until they make no more.
func (m *model) block(from, to int, rels []api.Zset) []api.Zset {
	rels = slices.Concat(rels, make([]api.Zset, to-from))
	for grown := true; grown; {
		grown = false
		for rel := from; rel < to; rel++ {
			for _, r := range m.Views[rel-len(m.Inputs)].Rules {
				for _, row := range m.derived(r, rels) {
					if n, _ := zset.Count(rels[rel], row); n == 0 {
						rels[rel], _ = zset.Add(rels[rel], api.Zset{{Row: row, N: 1}})
						grown = true
					}
				}
			}
		}
	}
	return rels[from:]
}

// derived returns all rows that a rule makes.
func (m *model) derived(r api.Rule, rels []api.Zset) (made []api.Value) {
	vars := map[int]api.Value{}
	types := map[int]api.Type{}
	of := func(terms []api.Term) api.Value {
		v := api.Value{Kind: api.ValueTuple}
		for _, t := range terms {
			if t.Var >= 0 {
				t.Value = vars[t.Var]
			}
			v.L = append(v.L, t.Value)
		}
		return v
	}
	var hold func(body []api.Atom)
	hold = func(body []api.Atom) {
		if len(body) == 0 {
			if m.holds(r, vars, types, of, rels) {
				made = append(made, of(r.Head))
			}
			return
		}
		a := body[0]
		if a.Not {
			hold(body[1:])
			return
		}
		for _, x := range rels[a.Rel] {
			var mine []int
			fits := x.N > 0
			for i, t := range a.Args {
				if _, found := vars[t.Var]; t.Var >= 0 && !found {
					vars[t.Var], types[t.Var] = x.Row.L[i], m.types[a.Rel].L[i]
					mine = append(mine, t.Var)
				}
			}
			if fits && same(of(a.Args), x.Row) {
				hold(body[1:])
			}
			for _, n := range mine {
				delete(vars, n)
			}
		}
	}
	hold(r.Body)
	return made
}

// holds reports whether atoms with Not and tests hold for values of all variables.
func (m *model) holds(r api.Rule, vars map[int]api.Value, types map[int]api.Type, of func([]api.Term) api.Value, rels []api.Zset) bool {
	for _, a := range r.Body {
		if n, _ := zset.Count(rels[a.Rel], of(a.Args)); a.Not && n > 0 {
			return false
		}
	}
	var l []api.Value
	var t []api.Type
	for n := range len(vars) {
		l, t = append(l, vars[n]), append(t, types[n])
	}
	for _, e := range r.Tests {
		if v, f := calc.Eval(m.Funs, t, l, e); f != api.OK || v.N == 0 {
			return false
		}
	}
	return true
}

// maker makes programs that are valid, and inputs.
type maker struct{ *rand.Rand }

func someMaker() maker { return maker{someRand()} }

// pick returns a part of a list.
func pick[T any](m maker, l []T) T { return l[m.IntN(len(l))] }

// someType returns a type; two of three are tuples.
func (m maker) someType() api.Type {
	return typ(pick(m, []string{"int", "text", "[int + text]", "()", "(int)", "(text)", "(int, int)", "(int, int)", "(int, text)", "(text, int)", "(int, (int, text))", "(int, int, int)"}))
}

// someTuple returns a type of tuples.
func (m maker) someTuple() api.Type {
	for {
		if t := m.someType(); t.Kind == api.TypeTuple {
			return t
		}
	}
}

func (m maker) someValue(t api.Type) api.Value {
	v := api.Value{}
	switch t.Kind {
	case api.TypeText:
		return api.Value{Kind: api.ValueText, S: pick(m, []string{"", "a", "b"})}
	case api.TypeTuple:
		v.Kind = api.ValueTuple
		for _, u := range t.L {
			v.L = append(v.L, m.someValue(u))
		}
	case api.TypeSum:
		v.Kind, v.N = api.ValueTag, m.IntN(len(t.L))
		v.L = []api.Value{m.someValue(t.L[v.N])}
	default:
		v.N = m.IntN(4) - 1
	}
	return v
}

// someRows returns a collection of rows of a type.
func (m maker) someRows(t api.Type) api.Zset {
	var l []api.Item
	for range m.IntN(7) {
		l = append(l, api.Item{Row: m.someValue(t), N: m.IntN(6) - 2})
	}
	z, _ := zset.Make(l)
	return z
}

func (m maker) someInputs(p api.Prog) []api.Zset {
	l := make([]api.Zset, len(p.Inputs))
	for i, t := range p.Inputs {
		l[i] = m.someRows(t)
	}
	return l
}

// someExp returns an expression of a type.
func (m maker) someExp(t api.Type, vars []api.Type, deep int) api.Exp {
	of := func(t api.Type) api.Exp { return m.someExp(t, vars, deep-1) }
	if deep > 0 {
		switch n := m.IntN(8); {
		case n == 0:
			return exp(api.ExpIf, 0, of(wordType()), of(t), of(t))
		case n == 1 && t.Kind == api.TypeInt:
			u := m.someType()
			return bin(api.OpLess+m.IntN(2), of(u), of(u))
		case n < 4 && t.Kind == api.TypeInt:
			return bin(pick(m, []int{api.OpAdd, api.OpSub, api.OpMul, api.OpMod, api.OpMax}), of(t), of(t))
		case n == 4 && t.Kind == api.TypeInt:
			return call(1, of(t))
		}
	}
	var l []api.Exp
	for n, u := range vars {
		l = append(l, ways(x(n), u, t)...)
	}
	if len(l) > 0 && m.IntN(6) > 0 {
		return pick(m, l)
	}
	return constant(m.someValue(t), t)
}

func wordType() api.Type { return api.Type{} }

// ways returns the parts of an expression that have a type, itself too.
func ways(e api.Exp, has, wanted api.Type) (l []api.Exp) {
	if same(has, wanted) {
		l = append(l, e)
	}
	for n, u := range has.L {
		if has.Kind == api.TypeTuple {
			l = append(l, ways(get(n, e), u, wanted)...)
		}
	}
	return l
}

// constant returns the expression of a value.
func constant(v api.Value, t api.Type) api.Exp {
	switch v.Kind {
	case api.ValueInt:
		return whole(v.N)
	case api.ValueText:
		return letters(v.S)
	case api.ValueTag:
		return api.Exp{Op: api.ExpTag, N: v.N, T: t.L, L: []api.Exp{constant(v.L[0], t.L[v.N])}}
	}
	e := tup()
	for n, u := range t.L {
		e.L = append(e.L, constant(v.L[n], u))
	}
	return e
}

// someProg returns a program of some inputs, and views of all kinds.
func (m maker) someProg() api.Prog {
	p := api.Prog{Funs: []api.Fun{fun(x(0), textType()), fun(bin(api.OpMod, x(0), whole(3)), wordType())}}
	for range 1 + m.IntN(3) {
		p.Inputs = append(p.Inputs, m.someTuple())
	}
	if m.IntN(3) == 0 {
		p.Inputs = append(p.Inputs, m.someType())
	}
	types := slices.Clone(p.Inputs)
	for len(p.Views) < 2+m.IntN(8) {
		if m.IntN(3) == 0 {
			for _, v := range m.someBlock(p, types) {
				p.Views, types = append(p.Views, v), append(types, v.T)
			}
			continue
		}
		v, t := m.someView(types)
		p.Views, types = append(p.Views, v), append(types, t)
	}
	for range m.IntN(5) {
		p.Outs = append(p.Outs, m.IntN(len(types)))
	}
	return p
}

func textType() api.Type { return api.Type{Kind: api.TypeText} }

// someView returns a view that is no ViewRules, and its row type.
func (m maker) someView(types []api.Type) (api.View, api.Type) {
	n := m.IntN(len(types))
	row, t := types[n], m.someType()
	of := func(t api.Type) api.Exp { return m.someExp(t, []api.Type{row}, 2) }
	switch m.IntN(7) {
	case 0:
		v := mapOf(n, of(t))
		for range m.IntN(4) {
			v.F = append(v.F, of(t))
		}
		return v, t
	case 1:
		return keepOf(n, of(wordType())), row
	case 2:
		v := sumOf(n)
		for k, u := range types {
			if same(u, row) && len(v.From) < 6 && m.IntN(2) == 0 {
				v.From = append(v.From, k)
			}
		}
		return v, row
	case 3:
		return negOf(n), row
	case 4:
		return onceOf(n), row
	case 5:
		k := m.IntN(len(types))
		key := pick(m, []api.Type{wordType(), textType(), typ("()"), row})
		return joinOf(n, k, of(key), m.someExp(key, types[k:k+1], 2), m.someExp(t, []api.Type{row, types[k]}, 2)), t
	}
	v := foldOf(m.IntN(4), n, of(t))
	if v.N != api.FoldCount {
		v.F = append(v.F, of(wordType()))
	}
	return v, api.Type{Kind: api.TypeTuple, L: []api.Type{t, wordType()}}
}

// someBlock returns views of a block. Its number may be that of the block ahead of it: then both are one.
func (m maker) someBlock(p api.Prog, types []api.Type) (block []api.View) {
	number, first := len(p.Views), len(types)
	if n := len(p.Views); m.IntN(4) == 0 && n > 0 && p.Views[n-1].Op == api.ViewRules {
		number = p.Views[n-1].N
		for first > len(p.Inputs) && p.Views[first-1-len(p.Inputs)].Op == api.ViewRules && p.Views[first-1-len(p.Inputs)].N == number {
			first--
		}
	}
	for range 1 + m.IntN(2) {
		block = append(block, api.View{Op: api.ViewRules, N: number, T: m.someTuple()})
		types = append(types, block[len(block)-1].T)
	}
	for i := range block {
		for range m.IntN(4) {
			block[i].Rules = append(block[i].Rules, m.someRule(block[i].T, types, first))
		}
	}
	return block
}

// someRule returns a rule of tuples among relations; those from first on are not denied.
func (m maker) someRule(t api.Type, types []api.Type, first int) (r api.Rule) {
	var vars []api.Type
	term := func(u api.Type, more bool) api.Term {
		for _, n := range m.Perm(len(vars)) {
			if same(vars[n], u) && m.IntN(4) > 0 {
				return api.Term{Var: n}
			}
		}
		if more && len(vars) < 12 && m.IntN(6) > 0 {
			vars = append(vars, u)
			return api.Term{Var: len(vars) - 1}
		}
		return api.Term{Var: -1, Value: m.someValue(u)}
	}
	atom := func(rel int, not bool) {
		if types[rel].Kind != api.TypeTuple {
			return
		}
		a := api.Atom{Rel: rel, Not: not}
		for _, u := range types[rel].L {
			a.Args = append(a.Args, term(u, !not))
		}
		r.Body = append(r.Body, a)
	}
	for range m.IntN(4) {
		atom(m.IntN(len(types)), false)
	}
	for range m.IntN(3) {
		atom(m.IntN(first), true)
	}
	m.Shuffle(len(r.Body), func(i, k int) { r.Body[i], r.Body[k] = r.Body[k], r.Body[i] })
	for _, u := range t.L {
		r.Head = append(r.Head, term(u, false))
	}
	for range m.IntN(2) * m.IntN(3) {
		r.Tests = append(r.Tests, m.someExp(wordType(), vars, 2))
	}
	return r
}

// setting returns a program, and inputs and changes for it.
func (m maker) setting() setting {
	p := m.someProg()
	s := setting{P: p, Ins: m.someInputs(p), Change: m.someInputs(p)}
	for range m.IntN(4) {
		s.Changes = append(s.Changes, m.someInputs(p))
	}
	return s
}

func TestModel(t *testing.T) { // P6.1, P6.2, P6.3, P6.7: what programs mean
	m := someMaker()
	seen := map[int]int{}
	for range 4000 {
		p := m.someProg()
		o, e := modelOf(p)
		if e != api.OK {
			t.Fatalf("the model refuses %v: %d", p, e)
		}
		if l := must(query.Types(p))(t); !same(l, o.types) || query.Check(p) != api.OK {
			t.Fatalf("types of %v: %v, not %v", p, l, o.types)
		}
		for range 3 {
			ins := m.someInputs(p)
			want := o.eval(ins)
			l := must(query.Eval(p, ins))(t)
			if !same(l, want) {
				t.Fatalf("%v of %v: %v, not %v", p, ins, l, want)
			}
			for i, v := range p.Views {
				if z := l[len(p.Inputs)+i]; len(z) > 0 {
					seen[v.Op]++
				}
			}
			answers := must(query.Answers(p, ins))(t)
			if len(answers) != len(p.Outs) {
				t.Fatalf("%d answers for %v", len(answers), p.Outs)
			}
			for i, n := range p.Outs {
				if !same(answers[i], want[n]) {
					t.Fatalf("answer %d of %v: %v, not %v", i, p, answers[i], want[n])
				}
			}
		}
	}
	for op := range api.ViewRules + 1 {
		if seen[op] < 500 {
			t.Errorf("only %d collections of views of the kind %d", seen[op], op)
		}
	}
}

// alter changes one place of x, which can be set, if there is one: a number, a text, or a list.
func (m maker) alter(x reflect.Value) {
	var places []reflect.Value
	var walk func(x reflect.Value)
	walk = func(x reflect.Value) {
		switch x.Kind() {
		case reflect.Struct:
			for i := range x.NumField() {
				walk(x.Field(i))
			}
			return
		case reflect.Slice:
			for i := range x.Len() {
				walk(x.Index(i))
			}
			if x.Len() == 0 {
				return
			}
		}
		places = append(places, x)
	}
	walk(x)
	switch x := pick(m, places); x.Kind() {
	case reflect.Int:
		x.SetInt(x.Int() + int64(m.IntN(5)) - 2)
	case reflect.Bool:
		x.SetBool(!x.Bool())
	case reflect.Slice:
		n := m.IntN(x.Len())
		one := x.Index(n)
		switch without := reflect.AppendSlice(x.Slice3(0, n, n), x.Slice(n+1, x.Len())); m.IntN(3) {
		case 0:
			x.Set(without)
		case 1:
			x.Set(reflect.Append(x.Slice3(0, x.Len(), x.Len()), one))
		case 2:
			x.Set(reflect.Append(without, one))
		}
	}
}

func TestAlteredPrograms(t *testing.T) { // P6.1, P6.2, P6.3, R1
	m := someMaker()
	seen := map[api.Errno]int{}
	for range 15000 {
		p := copied(m.someProg())
		for range 1 + m.IntN(3) {
			m.alter(reflect.ValueOf(&p).Elem())
		}
		o, e := modelOf(p)
		seen[e]++
		l, f := query.Types(p)
		if f != e || query.Check(p) != e || e == api.OK && !same(l, o.types) || e != api.OK && len(l) > 0 {
			t.Fatalf("types of %v: %v, %d, not %v, %d", p, l, f, o.types, e)
		}
		if e != api.OK {
			continue
		}
		ins := m.someInputs(p)
		if want, rels := o.eval(ins), must(query.Eval(p, ins))(t); !same(rels, want) {
			t.Fatalf("%v of %v: %v, not %v", p, ins, rels, want)
		}
		if l := must(query.Blocks(p))(t); !same(l, o.blocks()) {
			t.Fatalf("blocks of %v: %v, not %v", p, l, o.blocks())
		}
	}
	if seen[api.OK] < 1500 || seen[api.ErrArg] < 1500 || seen[api.ErrType] < 1500 {
		t.Errorf("%v", seen)
	}
}

// blocks returns the relations of each block.
func (m *model) blocks() (l [][]int) {
	for i, v := range m.Views {
		if v.Op == api.ViewRules && m.from[i] == len(m.Inputs)+i {
			var block []int
			for rel := m.from[i]; rel < m.to[i]; rel++ {
				block = append(block, rel)
			}
			l = append(l, block)
		}
	}
	return l
}
