package calc_test

import (
	"maps"
	"reflect"
	"slices"
	"sync"
	"testing"

	"deltaworks/api"
	"deltaworks/calc"
)

// someExps returns an expression of each type, and the types.
func (m maker) someExps(types, vars []api.Type) []api.Exp {
	l := make([]api.Exp, len(types))
	for i, t := range types {
		l[i] = m.someExp(t, vars)
	}
	return l
}

func TestPutAndEvaluate(t *testing.T) { // P5.6, P5.8: to put expressions for variables, and evaluate, is to evaluate these first
	r := someRand()
	great := 0
	for range 20000 {
		m := someMaker(r)
		from, to := m.someTypes(r.IntN(4), 1), m.someTypes(r.IntN(4), 1)
		e, l := m.someExp(m.someType(1), from), m.someExps(from, to)
		p, f := calc.Put(e, l, len(to))
		if f == api.ErrRange {
			great++
			continue
		}
		if f != api.OK || nodes(p) > 60 || depth(p) > 20 {
			t.Fatalf("%v with %v: %v, %d", e, l, p, f)
		}
		v := m.someValues(to)
		first := make([]api.Value, len(l))
		for i := range l {
			first[i] = must(calc.Eval(m.funs, to, v, l[i]))(t)
		}
		want := must(calc.Eval(m.funs, from, first, e))(t)
		if made, f := calc.Eval(m.funs, to, v, p); f != api.OK || !same(made, want) {
			t.Fatalf("%v with %v is %v; of %v it makes %v, %d, not %v", e, l, p, v, made, f, want)
		}
		if u, f := calc.TypeOf(m.funs, to, p); f != api.OK || !same(u, must(calc.TypeOf(m.funs, from, e))(t)) {
			t.Fatalf("%v with %v is %v, of the type %v, %d", e, l, p, u, f)
		}
	}
	if great < 100 || great > 5000 {
		t.Errorf("%d were too great", great)
	}
}

func TestCalls(t *testing.T) { // P5.8: a call is its body with the parts put in
	r := someRand()
	calls := 0
	for range 20000 {
		m := someMaker(r)
		if len(m.funs) == 0 {
			continue
		}
		n := r.IntN(len(m.funs))
		vars := m.someTypes(r.IntN(3), 1)
		l := m.someExps(m.funs[n].Params, vars)
		e := call(n, l...)
		p, f := calc.Put(m.funs[n].Body, l, len(vars))
		if f == api.ErrRange || nodes(e) > 60 {
			continue
		}
		calls++
		v := m.someValues(vars)
		made, want := must(calc.Eval(m.funs, vars, v, e))(t), must(calc.Eval(m.funs, vars, v, p))(t)
		if f != api.OK || !same(made, want) {
			t.Fatalf("%v, with %v and the functions %v: %v; %v: %v", e, v, m.funs, made, p, want)
		}
		if u := must(calc.TypeOf(m.funs, vars, e))(t); !same(u, must(calc.TypeOf(m.funs, vars, p))(t)) || !same(u, must(calc.Results(m.funs))(t)[n]) {
			t.Fatalf("%v, with the functions %v: %v", e, m.funs, u)
		}
	}
	if calls < 5000 {
		t.Errorf("%d calls", calls)
	}
}

// reads returns which variables an expression reads, rising.
func reads(e api.Exp) (l []int) {
	if e.Op == api.ExpVar {
		l = []int{e.N}
	}
	for _, part := range e.L {
		l = slices.Concat(l, reads(part))
	}
	slices.Sort(l)
	return slices.Compact(l)
}

func TestUnread(t *testing.T) { // P5.5, P5.8: a variable that is not read makes no difference
	r := someRand()
	differ := 0
	for range 10000 {
		m := someMaker(r)
		vars := m.someTypes(r.IntN(6), 1)
		e := m.someExp(m.someType(1), vars)
		l, f := calc.Uses(e, len(vars))
		if want := slices.DeleteFunc(reads(e), func(n int) bool { return n >= len(vars) }); f != api.OK || !slices.Equal(l, want) {
			t.Fatalf("%v, with %d variables: %v, %d", e, len(vars), l, f)
		}
		v := m.someValues(vars)
		want, typ := must(calc.Eval(m.funs, vars, v, e))(t), must(calc.TypeOf(m.funs, vars, e))(t)
		for i := range vars {
			others := slices.Clone(vars)
			values := slices.Clone(v)
			if !slices.Contains(l, i) {
				others[i] = m.someType(2)
			}
			values[i] = m.someValue(others[i])
			made, f := calc.Eval(m.funs, others, values, e)
			if f != api.OK || !slices.Contains(l, i) && !same(made, want) {
				t.Fatalf("%v of %v: %v; of %v: %v, %d", e, v, want, values, made, f)
			}
			if !same(made, want) {
				differ++
			}
			if u, f := calc.TypeOf(m.funs, others, e); f != api.OK || !same(u, typ) {
				t.Fatalf("%v of %v: %v; of %v: %v, %d", e, vars, typ, others, u, f)
			}
		}
	}
	if differ < 1000 {
		t.Errorf("only %d variables that are read made a difference", differ)
	}
}

// someSetting returns all that functions are given.
func someSetting(m maker) setting {
	vars := m.someTypes(2+m.IntN(2), 1)
	s := setting{Funs: m.funs, Types: vars, Values: m.someValues(vars), E: m.someExp(m.someType(2), vars), Vars: len(vars)}
	s.L = m.someExps(vars, vars)
	return copied(s)
}

// isClear reports whether there is nothing behind the ends of all lists of x.
func isClear(x reflect.Value) bool {
	clear := true
	switch x.Kind() {
	case reflect.Struct:
		for i := range x.NumField() {
			clear = clear && isClear(x.Field(i))
		}
	case reflect.Slice:
		all := x.Slice(0, x.Cap())
		for i := range all.Len() {
			clear = clear && (i < x.Len() && isClear(all.Index(i)) || i >= x.Len() && all.Index(i).IsZero())
		}
	}
	return clear
}

func TestMemory(t *testing.T) { // P5.7, R4, W11
	r := someRand()
	for range 3000 {
		s := someSetting(someMaker(r))
		again, args := copied(s), memory{}
		if !args.isNew(reflect.ValueOf(&s).Elem()) {
			t.Fatal("the arguments share memory")
		}
		results := calls(s)
		if !same(s, again) || !isClear(reflect.ValueOf(&s).Elem()) {
			t.Fatalf("arguments became %v, from %v", s, again)
		}
		for name, o := range results {
			if !args.isNew(reflect.ValueOf(&o).Elem()) {
				t.Fatalf("%s of %v shares memory", name, again)
			}
		}
		spoil(reflect.ValueOf(&s).Elem())
		if other := calls(again); !same(sorted(other), sorted(results)) {
			t.Fatalf("%v, and again %v", results, other)
		}
	}
}

// sorted returns results by the names of the calls.
func sorted(results map[string]outcome) (l []outcome) {
	for _, name := range slices.Sorted(maps.Keys(results)) {
		l = append(l, results[name])
	}
	return l
}

func TestSharedArguments(t *testing.T) { // R4: parts of an argument may share memory, those of a result do not
	part := tup(tagged(0, x(0), words(), texts()), letters("a"))
	l := []api.Exp{part, part}
	p := must(calc.Put(tup(x(0), x(1), x(0), let(whole(1), x(1))), l, 1))(t)
	typ := must(calc.TypeOf(nil, []api.Type{words()}, tup(part, part, let(part, x(1)))))(t)
	v := must(calc.Eval(nil, []api.Type{words()}, []api.Value{num(1)}, let(part, tup(x(1), x(1), x(1)))))(t)
	results := must(calc.Results([]api.Fun{fun(part, words()), fun(call(0, x(0)), words()), fun(x(0), typ)}))(t)
	for i, x := range []any{&p, &typ, &v, &results} {
		args := memory{}
		args.isNew(reflect.ValueOf(&l).Elem())
		if !args.isNew(reflect.ValueOf(x).Elem()) {
			t.Errorf("the result %d shares memory", i)
		}
	}
	if !same(p, tup(part, part, part, let(whole(1), part))) {
		t.Errorf("%v", p)
	}
}

func TestCallsSideBySide(t *testing.T) { // W11: nothing is kept from call to call, and arguments are only read
	r := someRand()
	for range 20 {
		s := someSetting(someMaker(r))
		want := sorted(calls(s))
		wrong := make([]bool, 8)
		var group sync.WaitGroup
		for i := range wrong {
			group.Go(func() {
				for range 10 {
					wrong[i] = wrong[i] || !same(sorted(calls(s)), want)
				}
			})
		}
		group.Wait()
		if slices.Contains(wrong, true) {
			t.Errorf("other results side by side")
		}
	}
}
