package calc_test

import (
	"math/rand/v2"
	"slices"
	"strings"
	"testing"

	"deltaworks/api"
	"deltaworks/calc"
	"deltaworks/value"
)

// model is what the chapter says, case by case: of functions, and of each one that is formed and typed its whole size and the type of its body.
type model struct {
	funs    []api.Fun
	wholes  []int
	results []api.Type
}

// modelOf returns the model of functions, and the error that they have.
func modelOf(funs []api.Fun) (model, api.Errno) {
	var m model
	for _, f := range funs {
		if !m.isFormed(f.Body, len(f.Params)) || m.whole(f.Body) > 2000 {
			return m, api.ErrArg
		}
		m.funs, m.wholes = append(m.funs, f), append(m.wholes, m.whole(f.Body))
	}
	for _, f := range funs {
		t, ok := m.typeOf(f.Body, f.Params)
		if !ok {
			return m, api.ErrType
		}
		m.results = append(m.results, t)
	}
	return m, api.OK
}

func (m model) whole(e api.Exp) int {
	n := 1
	if e.Op == api.ExpCall {
		n += m.wholes[e.N]
	}
	for _, part := range e.L {
		n += m.whole(part)
	}
	return n
}

func (m model) isFormed(e api.Exp, vars int) bool {
	return nodes(e) <= 60 && depth(e) <= 20 && m.fits(e, vars)
}

func (m model) fits(e api.Exp, vars int) bool {
	n, ok := len(e.L), false
	switch e.Op {
	case api.ExpVar:
		ok = n == 0 && e.N >= 0 && e.N < vars
	case api.ExpInt:
		ok = n == 0 && e.N == int(int32(e.N))
	case api.ExpText:
		ok = n == 0 && len(e.S) <= 100 && strings.IndexFunc(e.S, func(r rune) bool { return r < ' ' || r > '~' }) < 0
	case api.ExpTuple:
		ok = n <= 8
	case api.ExpGet:
		ok = n == 1 && e.N >= 0 && e.N <= 7
	case api.ExpTag:
		ok = n == 1 && len(e.T) <= 8 && e.N >= 0 && e.N < len(e.T)
	case api.ExpCase:
		ok = n >= 2 && n <= 9
	case api.ExpLet, api.ExpJoin:
		ok = n == 2
	case api.ExpIf, api.ExpCut:
		ok = n == 3
	case api.ExpBin:
		ok = n == 2 && e.N >= 0 && e.N <= api.OpSame
	case api.ExpSize:
		ok = n == 1
	case api.ExpCall:
		ok = e.N >= 0 && e.N < len(m.funs) && n == len(m.funs[e.N].Params)
	}
	for i, part := range e.L {
		more := 0
		if i > 0 && (e.Op == api.ExpCase || e.Op == api.ExpLet) {
			more = 1
		}
		ok = ok && m.fits(part, vars+more)
	}
	return ok
}

// typeOf returns the type of a formed expression, and whether it is typed.
func (m model) typeOf(e api.Exp, vars []api.Type) (api.Type, bool) {
	var l []api.Type
	for i, part := range e.L {
		inner := vars
		if e.Op == api.ExpLet && i == 1 {
			inner = slices.Concat(vars, l[:1])
		}
		if e.Op == api.ExpCase && i > 0 {
			if l[0].Kind != api.TypeSum || len(l[0].L) != len(e.L)-1 {
				return api.Type{}, false
			}
			inner = slices.Concat(vars, l[0].L[i-1:i])
		}
		t, ok := m.typeOf(part, inner)
		if !ok {
			return t, false
		}
		l = append(l, t)
	}
	t, ok := m.made(e, vars, l)
	return t, ok && value.Type(t) == api.OK
}

// made returns the type that an operation makes of those of its parts.
func (m model) made(e api.Exp, vars, l []api.Type) (api.Type, bool) {
	switch e.Op {
	case api.ExpVar:
		return vars[e.N], true
	case api.ExpInt:
		return words(), true
	case api.ExpText:
		return texts(), true
	case api.ExpTuple:
		return tuples(l...), true
	case api.ExpGet:
		if l[0].Kind != api.TypeTuple || e.N >= len(l[0].L) {
			return api.Type{}, false
		}
		return l[0].L[e.N], true
	case api.ExpTag:
		return sums(e.T...), same(l[0], e.T[e.N])
	case api.ExpCase:
		return l[1], !slices.ContainsFunc(l[1:], func(t api.Type) bool { return !same(t, l[1]) })
	case api.ExpLet:
		return l[1], true
	case api.ExpIf:
		return l[1], same(l[0], words()) && same(l[1], l[2])
	case api.ExpBin:
		return words(), same(l[0], l[1]) && (e.N >= api.OpLess || same(l[0], words()))
	case api.ExpSize:
		return words(), same(l, []api.Type{texts()})
	case api.ExpJoin:
		return texts(), same(l, []api.Type{texts(), texts()})
	case api.ExpCut:
		return texts(), same(l, []api.Type{texts(), words(), words()})
	}
	return m.results[e.N], same(l, m.funs[e.N].Params)
}

// value returns the value of a typed expression.
func (m model) value(e api.Exp, vars []api.Value) api.Value {
	part := func(i int, more ...api.Value) api.Value { return m.value(e.L[i], slices.Concat(vars, more)) }
	switch e.Op {
	case api.ExpVar:
		return vars[e.N]
	case api.ExpInt:
		return num(e.N)
	case api.ExpText:
		return text(e.S)
	case api.ExpGet:
		return part(0).L[e.N]
	case api.ExpTag:
		return tag(e.N, part(0))
	case api.ExpCase:
		v := part(0)
		return part(v.N+1, v.L...)
	case api.ExpLet:
		return part(1, part(0))
	case api.ExpIf:
		return part(2 - whether(part(0).N != 0))
	case api.ExpBin:
		return num(m.bin(e.N, part(0), part(1)))
	case api.ExpSize:
		return num(len(part(0).S))
	case api.ExpJoin:
		return text(string(append([]byte(part(0).S), part(1).S...)[:min(100, len(part(0).S)+len(part(1).S))]))
	case api.ExpCut:
		var l []byte
		for i, b := range []byte(part(0).S) {
			if i >= part(1).N && i < part(2).N {
				l = append(l, b)
			}
		}
		return text(string(l))
	}
	var l []api.Value
	for i := range e.L {
		l = append(l, part(i))
	}
	if e.Op == api.ExpTuple {
		return tuple(l...)
	}
	return m.value(m.funs[e.N].Body, l)
}

// bin tells the order of values by their keys.
func (m model) bin(op int, a, b api.Value) int {
	if op < api.OpLess {
		return made(op, a.N, b.N)
	}
	x, _ := value.Key(a)
	y, _ := value.Key(b)
	if op == api.OpLess {
		return whether(x < y)
	}
	return whether(x == y)
}

// maker makes expressions of types that are asked for.
type maker struct {
	*rand.Rand
	model
}

func (m maker) someType(deep int) api.Type {
	n := m.IntN(10)
	if deep == 0 {
		n %= 7
	}
	switch {
	case n < 4:
		return words()
	case n < 7:
		return texts()
	case n < 9:
		return tuples(m.someTypes(m.IntN(4), deep-1)...)
	}
	return sums(m.someTypes(1+m.IntN(3), deep-1)...)
}

func (m maker) someTypes(n, deep int) []api.Type {
	l := make([]api.Type, n)
	for i := range l {
		l[i] = m.someType(deep)
	}
	return l
}

func (m maker) someValue(t api.Type) api.Value {
	switch t.Kind {
	case api.TypeText:
		return text(strings.Repeat("ab~\" 01", 15)[:m.IntN(4)*m.IntN(2)+m.IntN(10)/9*97])
	case api.TypeTuple:
		return tuple(m.someValues(t.L)...)
	case api.TypeSum:
		n := m.IntN(len(t.L))
		return tag(n, m.someValue(t.L[n]))
	}
	if m.IntN(4) == 0 {
		return num(int(int32(m.Uint32())))
	}
	return num(m.IntN(7) - 3)
}

func (m maker) someValues(l []api.Type) []api.Value {
	v := make([]api.Value, len(l))
	for i, t := range l {
		v[i] = m.someValue(t)
	}
	return v
}

// someExp returns a formed expression of a type.
func (m maker) someExp(t api.Type, vars []api.Type) api.Exp {
	for {
		if e := m.exp(t, vars, 1+m.IntN(4)); nodes(e) <= 60 {
			return e
		}
	}
}

// exp returns an expression of a type, so deep that it may be too great.
func (m maker) exp(t api.Type, vars []api.Type, deep int) api.Exp {
	of := func(t api.Type) api.Exp { return m.exp(t, vars, deep-1) }
	for n := m.IntN(9); deep > 0; n = m.IntN(9) {
		switch {
		case n == 0:
			u := m.someType(1)
			return let(of(u), m.exp(t, slices.Concat(vars, []api.Type{u}), deep-1))
		case n == 1:
			return ifs(of(words()), of(t), of(t))
		case n == 2:
			l := m.someTypes(1+m.IntN(3), 1)
			k := m.IntN(len(l))
			l[k] = t
			return get(k, of(tuples(l...)))
		case n == 3:
			sum := sums(m.someTypes(1+m.IntN(3), 1)...)
			l := make([]api.Exp, len(sum.L))
			for i, u := range sum.L {
				l[i] = m.exp(t, slices.Concat(vars, []api.Type{u}), deep-1)
			}
			return cases(of(sum), l...)
		case n == 4 && len(m.results) > 0:
			if k := m.IntN(len(m.results)); same(m.results[k], t) {
				l := make([]api.Exp, len(m.funs[k].Params))
				for i, u := range m.funs[k].Params {
					l[i] = of(u)
				}
				return call(k, l...)
			}
		case n < 7:
			return m.plain(t, of)
		default:
			return m.leaf(t, vars, of)
		}
	}
	return m.leaf(t, vars, func(t api.Type) api.Exp { return m.leaf(t, vars, nil) })
}

// plain returns an operation that makes what is of the type alone.
func (m maker) plain(t api.Type, of func(api.Type) api.Exp) api.Exp {
	switch t.Kind {
	case api.TypeText:
		if m.IntN(2) == 0 {
			return join(of(t), of(t))
		}
		return cut(of(t), of(words()), of(words()))
	case api.TypeInt:
		if n := m.IntN(api.Ops + 1); n < api.OpLess {
			return bin(n, of(t), of(t))
		} else if n < api.Ops {
			u := m.someType(1)
			return bin(n, of(u), of(u))
		}
		return size(of(texts()))
	}
	return m.parts(t, of)
}

// leaf returns a variable, if there is one of the type, or else a constant, or one of its parts.
func (m maker) leaf(t api.Type, vars []api.Type, of func(api.Type) api.Exp) api.Exp {
	for _, n := range m.Perm(len(vars)) {
		if same(vars[n], t) && m.IntN(4) > 0 {
			return x(n)
		}
	}
	switch t.Kind {
	case api.TypeInt:
		return whole(m.someValue(t).N)
	case api.TypeText:
		return letters(m.someValue(t).S)
	}
	if of == nil {
		of = func(t api.Type) api.Exp { return m.leaf(t, vars, nil) }
	}
	return m.parts(t, of)
}

// parts returns a tuple, or a tagged value, of others.
func (m maker) parts(t api.Type, of func(api.Type) api.Exp) api.Exp {
	if t.Kind == api.TypeSum {
		n := m.IntN(len(t.L))
		return tagged(n, of(t.L[n]), t.L...)
	}
	var l []api.Exp
	for _, u := range t.L {
		l = append(l, of(u))
	}
	return tup(l...)
}

// someMaker returns a maker with some functions.
func someMaker(r *rand.Rand) maker {
	m := maker{r, model{}}
	for range r.IntN(5) {
		params := m.someTypes(r.IntN(4), 1)
		f := fun(m.someExp(m.someType(1), params), params...)
		if with, e := modelOf(append(slices.Clone(m.funs), f)); e == api.OK {
			m.model = with
		}
	}
	return m
}

// other returns an expression that is not the same at some place.
func (m maker) other(e api.Exp, vars []api.Type) api.Exp {
	l := slices.Clone(e.L)
	if len(l) > 0 && m.IntN(3) > 0 {
		n := m.IntN(len(l))
		l[n] = m.other(l[n], vars)
		e.L = l
		return e
	}
	switch n := m.IntN(7); {
	case n == 0:
		e.N += m.IntN(3) - 1
	case n == 1:
		e.Op = m.IntN(15)
	case n == 2 && len(l) > 0:
		l = l[1:]
	case n == 3 && len(l) > 0:
		l = append(l, l[0])
	case n == 4 && len(l) > 1:
		l[0], l[1] = l[1], l[0]
	default:
		return m.someExp(m.someType(1), slices.Concat(vars, m.someTypes(1, 1)))
	}
	e.L = l
	return e
}

func TestModel(t *testing.T) { // P5.1, P5.2, P5.3, P5.8
	r := someRand()
	seen := map[api.Errno]int{}
	for range 30000 {
		m := someMaker(r)
		vars := m.someTypes(r.IntN(4), 2)
		wanted := m.someType(2)
		e := m.someExp(wanted, vars)
		if u, f := calc.TypeOf(m.funs, vars, e); f != api.OK || !same(u, wanted) {
			t.Fatalf("%v, with the functions %v and variables of %v: %v, %d, not %v", e, m.funs, vars, u, f, wanted)
		}
		funs := slices.Clone(m.funs)
		for range r.IntN(3) {
			e = m.other(e, vars)
		}
		if n := len(funs); n > 0 && r.IntN(4) == 0 {
			k := r.IntN(n)
			funs[k].Body = m.other(funs[k].Body, funs[k].Params)
		}
		all, f := modelOf(funs)
		if l, g := calc.Results(funs); f != g || g == api.OK && !same(l, all.results) || g != api.OK && len(l) > 0 {
			t.Fatalf("the functions %v: %v, %d, not %v, %d", funs, l, g, all.results, f)
		}
		var u api.Type
		if f != api.ErrArg && !all.isFormed(e, len(vars)) {
			f = api.ErrArg
		}
		if f == api.OK {
			is := false
			if u, is = all.typeOf(e, vars); !is {
				u, f = api.Type{}, api.ErrType
			}
		}
		seen[f]++
		if v, g := calc.TypeOf(funs, vars, e); f != g || !same(u, v) {
			t.Fatalf("%v, with the functions %v and variables of %v: %v, %d, not %v, %d", e, funs, vars, v, g, u, f)
		}
		for range 3 {
			var w api.Value
			l := m.someValues(vars)
			v, g := calc.Eval(funs, vars, l, e)
			if f == api.OK {
				w = all.value(e, l)
			}
			if f != g || !same(v, w) || f == api.OK && !value.Is(v, u) {
				t.Fatalf("%v, with the functions %v and %v of %v: %v, %d, not %v, %d", e, funs, l, vars, v, g, w, f)
			}
		}
	}
	if seen[api.OK] < 10000 || seen[api.ErrArg] < 1000 || seen[api.ErrType] < 1000 {
		t.Errorf("%v", seen)
	}
}
