package query_test

import (
	"math/rand/v2"
	"reflect"
	"strconv"
	"strings"
	"testing"

	"deltaworks/api"
	"deltaworks/query"
	"deltaworks/value"
	"deltaworks/zset"
)

// val and typ return what has a text, as chapter 1 says.
func val(s string) api.Value { return read(s, value.Parse) }
func typ(s string) api.Type  { return read(s, value.TypeParse) }

func read[T any](s string, parse func(string) (T, api.Errno)) T {
	x, e := parse(s)
	if e != api.OK {
		panic(s)
	}
	return x
}

// rows returns a collection, which need not be valid: "(1, 2): 3; (2, 2)" has a row three times, and one once.
func rows(s string) (z api.Zset) {
	for _, s := range split(s, ";") {
		row, count, found := strings.Cut(s, ":")
		n := 1
		if found {
			n, _ = strconv.Atoi(strings.TrimSpace(count))
		}
		z = append(z, api.Item{Row: val(row), N: n})
	}
	return z
}

func split(s, by string) (l []string) {
	for _, s := range strings.Split(s, by) {
		if s = strings.TrimSpace(s); s != "" {
			l = append(l, s)
		}
	}
	return l
}

// words returns a tuple of words; many n rows, once each, of the words from one on, and 0.
func words(l ...int) api.Value {
	v := api.Value{Kind: api.ValueTuple}
	for _, n := range l {
		v.L = append(v.L, api.Value{N: n})
	}
	return v
}

func many(from, n int) (z api.Zset) {
	for i := range n {
		z = append(z, api.Item{Row: words(from+i, 0), N: 1})
	}
	return z
}

// Expressions.
func exp(op, n int, l ...api.Exp) api.Exp  { return api.Exp{Op: op, N: n, L: l} }
func x(n int) api.Exp                      { return exp(api.ExpVar, n) }
func whole(n int) api.Exp                  { return exp(api.ExpInt, n) }
func letters(s string) api.Exp             { return api.Exp{Op: api.ExpText, S: s} }
func tup(l ...api.Exp) api.Exp             { return exp(api.ExpTuple, 0, l...) }
func get(n int, e api.Exp) api.Exp         { return exp(api.ExpGet, n, e) }
func part(n int) api.Exp                   { return get(n, x(0)) }
func bin(op int, a, b api.Exp) api.Exp     { return exp(api.ExpBin, op, a, b) }
func less(a, b api.Exp) api.Exp            { return bin(api.OpLess, a, b) }
func call(n int, l ...api.Exp) api.Exp     { return exp(api.ExpCall, n, l...) }
func fun(b api.Exp, l ...api.Type) api.Fun { return api.Fun{Params: l, Body: b} }

// Views of each kind.
func mapOf(from int, f ...api.Exp) api.View {
	return api.View{Op: api.ViewMap, From: []int{from}, F: f}
}
func keepOf(from int, f api.Exp) api.View {
	return api.View{Op: api.ViewKeep, From: []int{from}, F: []api.Exp{f}}
}
func sumOf(from ...int) api.View { return api.View{Op: api.ViewSum, From: from} }
func negOf(from int) api.View    { return api.View{Op: api.ViewNeg, From: []int{from}} }
func onceOf(from int) api.View   { return api.View{Op: api.ViewOnce, From: []int{from}} }
func joinOf(a, b int, f ...api.Exp) api.View {
	return api.View{Op: api.ViewJoin, From: []int{a, b}, F: f}
}
func foldOf(n, from int, f ...api.Exp) api.View {
	return api.View{Op: api.ViewFold, N: n, From: []int{from}, F: f}
}
func rulesOf(n int, t string, l ...api.Rule) api.View {
	return api.View{Op: api.ViewRules, N: n, T: typ(t), Rules: l}
}

// rule returns a rule: "x0 x2: 2 x0 x1, !1 x1 5" has a row (x0, x2) if the relation 2 has (x0, x1), and 1 has not (x1, 5). A blank within a value is told as _.
func rule(s string, tests ...api.Exp) api.Rule {
	head, body, _ := strings.Cut(s, ":")
	r := api.Rule{Head: terms(strings.Fields(head)), Tests: tests}
	for _, s := range split(body, ",") {
		l := strings.Fields(strings.TrimPrefix(s, "!"))
		rel, _ := strconv.Atoi(l[0])
		r.Body = append(r.Body, api.Atom{Rel: rel, Not: s[0] == '!', Args: terms(l[1:])})
	}
	return r
}

func terms(l []string) (out []api.Term) {
	for _, s := range l {
		if name, found := strings.CutPrefix(s, "x"); found {
			n, _ := strconv.Atoi(name)
			out = append(out, api.Term{Var: n})
		} else {
			out = append(out, api.Term{Var: -1, Value: val(strings.ReplaceAll(s, "_", " "))})
		}
	}
	return out
}

// prog returns a program of inputs of types, told by "; ", with views, and the answers outs.
func prog(inputs string, outs []int, views ...api.View) api.Prog {
	p := api.Prog{Views: views, Outs: outs}
	for _, s := range split(inputs, ";") {
		p.Inputs = append(p.Inputs, typ(s))
	}
	return p
}

// sample returns the program P of the chapter.
func sample() api.Prog {
	return prog("(int, int); (int, int)", []int{2, 3, 4},
		rulesOf(0, "(int, int)", rule("x0 x1: 0 x0 x1"), rule("x0 x2: 2 x0 x1, 0 x1 x2")),
		rulesOf(0, "(int, int)", rule("x1 x0: 2 x0 x1, !1 x0 x1", less(x(0), x(1)))),
		foldOf(api.FoldCount, 2, part(0)), negOf(0))
}

// outcome is what a call returned.
type outcome struct {
	Types    []api.Type
	Blocks   [][]int
	Rels     []api.Zset
	Versions [][]api.Zset
	E        api.Errno
}

func typesAs(l []api.Type, e api.Errno) outcome      { return outcome{Types: l, E: e} }
func blocksAs(l [][]int, e api.Errno) outcome        { return outcome{Blocks: l, E: e} }
func relsAs(l []api.Zset, e api.Errno) outcome       { return outcome{Rels: l, E: e} }
func versionsAs(l [][]api.Zset, e api.Errno) outcome { return outcome{Versions: l, E: e} }

// setting is all that functions are given: those of query take parts of it.
type setting struct {
	P           api.Prog
	Ins, Change []api.Zset
	Changes     [][]api.Zset
}

// calls lists what all functions make of a setting, in a fixed order.
func calls(s setting) []outcome {
	return []outcome{
		{E: query.Check(s.P)}, typesAs(query.Types(s.P)), blocksAs(query.Blocks(s.P)), relsAs(query.Eval(s.P, s.Ins)), relsAs(query.Answers(s.P, s.Ins)), relsAs(query.Apply(s.P, s.Ins, s.Change)), versionsAs(query.Versions(s.P, s.Changes)),
	}
}

// someRand returns numbers that are the same ones each time.
func someRand() *rand.Rand { return rand.New(rand.NewPCG(21, 22)) }

// must returns what a call returns, which must be without an error.
func must[T any](x T, e api.Errno) func(t *testing.T) T {
	return func(t *testing.T) T {
		t.Helper()
		if e != api.OK {
			t.Fatalf("error %d", e)
		}
		return x
	}
}

// same reports whether two results are the same, where nil and empty lists are.
func same[T any](a, b T) bool { return sameReflect(reflect.ValueOf(a), reflect.ValueOf(b)) }

func sameReflect(a, b reflect.Value) bool {
	switch a.Kind() {
	case reflect.Struct:
		for i := range a.NumField() {
			if !sameReflect(a.Field(i), b.Field(i)) {
				return false
			}
		}
		return true
	case reflect.Slice:
		if a.Len() != b.Len() {
			return false
		}
		for i := range a.Len() {
			if !sameReflect(a.Index(i), b.Index(i)) {
				return false
			}
		}
		return true
	}
	return a.Equal(b)
}

// inOrder returns rows, which may stand in any order, as a collection.
func inOrder(z api.Zset) api.Zset {
	made, e := zset.Make(z)
	if e != api.OK {
		panic(e)
	}
	return made
}
