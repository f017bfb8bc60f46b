package calc_test

import (
	"math/rand/v2"
	"reflect"
	"slices"
	"testing"

	"deltaworks/api"
	"deltaworks/calc"
)

// num, text, tuple and tag return values.
func num(n int) api.Value                 { return api.Value{N: n} }
func text(s string) api.Value             { return api.Value{Kind: api.ValueText, S: s} }
func tuple(l ...api.Value) api.Value      { return api.Value{Kind: api.ValueTuple, L: l} }
func tag(n int, v ...api.Value) api.Value { return api.Value{Kind: api.ValueTag, N: n, L: v} }

// Types of values.
func words() api.Type                     { return api.Type{} }
func texts() api.Type                     { return api.Type{Kind: api.TypeText} }
func tuples(l ...api.Type) api.Type       { return api.Type{Kind: api.TypeTuple, L: l} }
func sums(l ...api.Type) api.Type         { return api.Type{Kind: api.TypeSum, L: l} }
func manyOf(t api.Type, n int) []api.Type { return slices.Repeat([]api.Type{t}, n) }

// Expressions of each operation.
func exp(op, n int, l ...api.Exp) api.Exp { return api.Exp{Op: op, N: n, L: l} }
func x(n int) api.Exp                     { return exp(api.ExpVar, n) }
func whole(n int) api.Exp                 { return exp(api.ExpInt, n) }
func letters(s string) api.Exp            { return api.Exp{Op: api.ExpText, S: s} }
func tup(l ...api.Exp) api.Exp            { return exp(api.ExpTuple, 0, l...) }
func get(n int, e api.Exp) api.Exp        { return exp(api.ExpGet, n, e) }
func tagged(n int, e api.Exp, t ...api.Type) api.Exp {
	return api.Exp{Op: api.ExpTag, N: n, T: t, L: []api.Exp{e}}
}
func cases(e api.Exp, l ...api.Exp) api.Exp {
	return exp(api.ExpCase, 0, slices.Concat([]api.Exp{e}, l)...)
}
func let(a, b api.Exp) api.Exp             { return exp(api.ExpLet, 0, a, b) }
func ifs(a, b, c api.Exp) api.Exp          { return exp(api.ExpIf, 0, a, b, c) }
func bin(op int, a, b api.Exp) api.Exp     { return exp(api.ExpBin, op, a, b) }
func add(a, b api.Exp) api.Exp             { return bin(api.OpAdd, a, b) }
func size(e api.Exp) api.Exp               { return exp(api.ExpSize, 0, e) }
func join(a, b api.Exp) api.Exp            { return exp(api.ExpJoin, 0, a, b) }
func cut(a, b, c api.Exp) api.Exp          { return exp(api.ExpCut, 0, a, b, c) }
func call(n int, l ...api.Exp) api.Exp     { return exp(api.ExpCall, n, l...) }
func fun(b api.Exp, l ...api.Type) api.Fun { return api.Fun{Params: l, Body: b} }

// sized returns a word of n nodes, of which at most 7 are one within the other if n is at most 64.
func sized(n int) api.Exp {
	switch n {
	case 1:
		return whole(1)
	case 2:
		return size(letters("a"))
	}
	return add(sized((n-1)/2), sized(n-1-(n-1)/2))
}

// deep returns a word of n nodes, one within the other; n is odd.
func deep(n int) api.Exp {
	e := whole(1)
	for range n / 2 {
		e = get(0, tup(e))
	}
	return e
}

// added returns the sum of words.
func added(l ...api.Exp) api.Exp {
	if len(l) == 1 {
		return l[0]
	}
	return add(added(l[:len(l)/2]...), added(l[len(l)/2:]...))
}

// nodes returns how many nodes an expression has, depth how many one within the other.
func nodes(e api.Exp) int {
	n := 1
	for _, part := range e.L {
		n += nodes(part)
	}
	return n
}

func depth(e api.Exp) int {
	n := 0
	for _, part := range e.L {
		n = max(n, depth(part))
	}
	return n + 1
}

// badTypes lists types that are not valid.
func badTypes() []api.Type {
	itself := tuples(make([]api.Type, 1)...)
	itself.L[0] = itself
	seven := tuples(tuples(tuples(tuples(tuples(tuples(tuples()))))))
	return []api.Type{{Kind: 4}, {Kind: -1}, sums(), {L: make([]api.Type, 1)}, tuples(make([]api.Type, 9)...), tuples(manyOf(tuples(manyOf(words(), 4)...), 8)...), seven, itself}
}

// badValues lists values that are not valid.
func badValues() []api.Value {
	itself := tuple(make([]api.Value, 1)...)
	itself.L[0] = itself
	return []api.Value{num(1 << 31), num(-1<<31 - 1), {S: "a"}, {Kind: 4}, {Kind: -1}, text("\n"), tag(8, num(1)), tag(1), tuple(make([]api.Value, 9)...), itself}
}

// setting is all that functions are given: those of calc take parts of it.
type setting struct {
	Funs   []api.Fun
	Types  []api.Type
	Values []api.Value
	E      api.Exp
	Vars   int
	L      []api.Exp
}

// outcome is what a call returned.
type outcome struct {
	Types []api.Type
	T     api.Type
	V     api.Value
	Reads []int
	Put   api.Exp
	E     api.Errno
}

func typesAs(l []api.Type, e api.Errno) outcome { return outcome{Types: l, E: e} }
func typeAs(t api.Type, e api.Errno) outcome    { return outcome{T: t, E: e} }
func valueAs(v api.Value, e api.Errno) outcome  { return outcome{V: v, E: e} }
func readsAs(l []int, e api.Errno) outcome      { return outcome{Reads: l, E: e} }
func putAs(p api.Exp, e api.Errno) outcome      { return outcome{Put: p, E: e} }

// calls lists what all functions make of a setting.
func calls(s setting) map[string]outcome {
	m := map[string]outcome{
		"Check": {E: calc.Check(s.Funs)}, "Results": typesAs(calc.Results(s.Funs)), "TypeOf": typeAs(calc.TypeOf(s.Funs, s.Types, s.E)), "Eval": valueAs(calc.Eval(s.Funs, s.Types, s.Values, s.E)),
		"Uses": readsAs(calc.Uses(s.E, s.Vars)), "Put": putAs(calc.Put(s.E, s.L, s.Vars)),
	}
	if len(s.Values) > 1 {
		m["Bin"] = valueAs(calc.Bin(api.OpLess, s.Values[0], s.Values[1]))
	}
	return m
}

// same reports whether two results are the same, where nil and empty lists are.
func same[T any](a, b T) bool { return sameReflect(reflect.ValueOf(a), reflect.ValueOf(b)) }

func sameReflect(a, b reflect.Value) bool {
	switch a.Kind() {
	case reflect.Struct:
		for i := range a.NumField() {
			if !sameReflect(a.Field(i), b.Field(i)) {
				return false
			}
		}
		return true
	case reflect.Slice:
		if a.Len() != b.Len() {
			return false
		}
		for i := range a.Len() {
			if !sameReflect(a.Index(i), b.Index(i)) {
				return false
			}
		}
		return true
	}
	return a.Equal(b)
}

// copied returns all of x in new memory, with room behind each list.
func copied[T any](x T) T { return copiedReflect(reflect.ValueOf(x)).Interface().(T) }

func copiedReflect(x reflect.Value) reflect.Value {
	c := reflect.New(x.Type()).Elem()
	switch x.Kind() {
	case reflect.Struct:
		for i := range x.NumField() {
			c.Field(i).Set(copiedReflect(x.Field(i)))
		}
	case reflect.Slice:
		c.Set(reflect.MakeSlice(x.Type(), x.Len(), x.Len()+2))
		for i := range x.Len() {
			c.Index(i).Set(copiedReflect(x.Index(i)))
		}
	default:
		c.Set(x)
	}
	return c
}

// memory is the places of all lists that were seen.
type memory map[uintptr]bool

// isNew adds the memory of x, also behind the ends of lists, and reports whether none of it was seen.
func (m memory) isNew(x reflect.Value) bool {
	fresh := true
	switch x.Kind() {
	case reflect.Struct:
		for i := range x.NumField() {
			fresh = m.isNew(x.Field(i)) && fresh
		}
	case reflect.Slice:
		all := x.Slice(0, x.Cap())
		for i := range all.Len() {
			p := all.Index(i).Addr().Pointer()
			fresh = fresh && !m[p]
			m[p] = true
			if i < x.Len() {
				fresh = m.isNew(all.Index(i)) && fresh
			}
		}
	}
	return fresh
}

// spoil changes all memory of x that can be changed, also behind the ends of lists.
func spoil(x reflect.Value) {
	switch x.Kind() {
	case reflect.Struct:
		for i := range x.NumField() {
			spoil(x.Field(i))
		}
	case reflect.Slice:
		all := x.Slice(0, x.Cap())
		for i := range all.Len() {
			spoil(all.Index(i))
		}
	case reflect.Int:
		if x.CanSet() {
			x.SetInt(-77)
		}
	case reflect.String:
		if x.CanSet() {
			x.SetString("\x00")
		}
	}
}

// someRand returns numbers that are the same ones each time.
func someRand() *rand.Rand { return rand.New(rand.NewPCG(11, 12)) }

// must returns what a call returns, which must be without an error.
func must[T any](x T, e api.Errno) func(t *testing.T) T {
	return func(t *testing.T) T {
		t.Helper()
		if e != api.OK {
			t.Fatalf("error %d", e)
		}
		return x
	}
}
