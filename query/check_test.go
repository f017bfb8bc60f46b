package query_test

import (
	"slices"
	"strings"
	"testing"

	"deltaworks/api"
	"deltaworks/query"
)

// badTypes lists types that are not valid, badValues values.
func badTypes() []api.Type {
	itself := api.Type{Kind: api.TypeTuple, L: make([]api.Type, 1)}
	itself.L[0] = itself
	return []api.Type{{Kind: 4}, {Kind: -1}, {Kind: api.TypeSum}, {L: make([]api.Type, 1)}, {Kind: api.TypeTuple, L: make([]api.Type, 9)}, wide(41), narrow(7), itself}
}

func badValues() []api.Value {
	itself := api.Value{Kind: api.ValueTuple, L: make([]api.Value, 1)}
	itself.L[0] = itself
	return []api.Value{{N: 1 << 31}, {S: "a"}, {Kind: 4}, {Kind: -1}, {Kind: api.ValueText, S: "\n"}, {Kind: api.ValueText, S: strings.Repeat("a", 101)}, {Kind: api.ValueTag, N: 1}, {Kind: api.ValueTuple, L: make([]api.Value, 9)}, itself}
}

// wide returns a tuple type of n types, itself too; narrow one of so many, one within the other.
func wide(n int) api.Type {
	t := api.Type{Kind: api.TypeTuple}
	for n--; n > 0; n -= 9 {
		t.L = append(t.L, api.Type{Kind: api.TypeTuple, L: make([]api.Type, min(n, 9)-1)})
	}
	return t
}

func narrow(deep int) api.Type {
	t := api.Type{Kind: api.TypeTuple}
	for range deep - 1 {
		t = api.Type{Kind: api.TypeTuple, L: []api.Type{t}}
	}
	return t
}

// badExp is not formed, whatever variables there are; loop contains itself.
func badExp() api.Exp { return bin(api.Ops, whole(1), whole(1)) }

func loop() api.Exp {
	e := tup(whole(1))
	e.L[0] = e
	return e
}

// chain returns views of which each one is made of the one ahead of it.
func chain(n int) (l []api.View) {
	for i := range n {
		l = append(l, negOf(i))
	}
	return l
}

const pair = "(int, int)"

// check is what is demanded of a program.
type check struct {
	p api.Prog
	e api.Errno
}

func demandChecks(t *testing.T, l []check) {
	t.Helper()
	for i, c := range l {
		none := make([]api.Zset, len(c.p.Inputs))
		for k, o := range calls(setting{c.p, none, none, [][]api.Zset{none}}) {
			if o.E != c.e || c.e != api.OK && !same(o, outcome{E: c.e}) {
				t.Errorf("program %d, function %d: %v, not %d", i, k, o, c.e)
			}
		}
	}
}

func TestHowMany(t *testing.T) { // P6.1: numbers of inputs, views, answers, functions
	with := func(p api.Prog, change func(*api.Prog)) api.Prog {
		change(&p)
		return p
	}
	ints := func(n int) string { return strings.Repeat("int; ", n) }
	l := []check{
		{api.Prog{}, api.ErrArg}, {prog("", nil, rulesOf(0, "()")), api.ErrArg}, {prog("int", nil), api.OK}, {prog("()", nil), api.OK}, {prog("[int]", []int{0}), api.OK}, {prog(ints(8), []int{7}), api.OK}, {prog(ints(9), nil), api.ErrArg},
		{prog("int", nil, chain(40)...), api.OK}, {prog("int", nil, chain(41)...), api.ErrArg}, {prog("int", []int{40, 0}, chain(40)...), api.OK}, {prog("int", []int{41}, chain(40)...), api.ErrArg},
		{prog("int", make([]int, 8)), api.OK}, {prog("int", make([]int, 9)), api.ErrArg}, {prog("int", []int{0, 0, 1, 0}, negOf(0)), api.OK}, {prog("int", []int{-1}), api.ErrArg}, {prog("int", []int{1}), api.ErrArg}, {prog("int", []int{0, 1, 2}, negOf(0)), api.ErrArg}, {prog("int", []int{1 << 62}), api.ErrArg},
		{with(prog("int", nil), func(p *api.Prog) { p.Funs = slices.Repeat([]api.Fun{fun(whole(1))}, 20) }), api.OK}, {with(prog("int", nil), func(p *api.Prog) { p.Funs = slices.Repeat([]api.Fun{fun(whole(1))}, 21) }), api.ErrArg},
		{with(prog("int", nil), func(p *api.Prog) { p.Funs = []api.Fun{fun(whole(1)), fun(x(0))} }), api.ErrArg}, {with(prog("int", nil), func(p *api.Prog) { p.Funs = []api.Fun{fun(part(0), typ("int"))} }), api.ErrType}, {with(prog("int", nil), func(p *api.Prog) { p.Funs = []api.Fun{fun(loop())} }), api.ErrArg},
		{prog("int", nil, api.View{Op: -1, From: []int{0}}), api.ErrArg}, {prog("int", nil, api.View{Op: api.ViewRules + 1, From: []int{0}}), api.ErrArg}, {prog("int", nil, api.View{Op: 1 << 62}), api.ErrArg}, {prog("int", nil, api.View{}), api.ErrArg}, {prog("int", nil, api.View{Op: -1, T: typ("()")}), api.ErrArg}, {prog("int", nil, api.View{Op: api.ViewRules + 1, T: typ("()")}), api.ErrArg},
	}
	for _, bad := range badTypes() {
		l = append(l, check{api.Prog{Inputs: []api.Type{bad}}, api.ErrArg}, check{api.Prog{Inputs: []api.Type{{}, bad}}, api.ErrArg}, check{api.Prog{Inputs: []api.Type{{}}, Funs: []api.Fun{fun(whole(1), bad)}}, api.ErrArg})
	}
	demandChecks(t, l)
}

func TestFormsOfViews(t *testing.T) { // P6.1: From, N and F of all kinds but ViewRules
	one := func(v api.View) api.Prog { return prog("int; int", nil, negOf(0), v, negOf(0)) } // v is 3
	is := func(e api.Errno, views ...api.View) (l []check) {
		for _, v := range views {
			l = append(l, check{one(v), e})
		}
		return l
	}
	from := func(v api.View, l ...int) api.View {
		v.From = l
		return v
	}
	l := slices.Concat(
		is(api.OK, mapOf(2, x(0)), mapOf(0, slices.Repeat([]api.Exp{x(0)}, 4)...), keepOf(1, x(0)), sumOf(0), sumOf(2), sumOf(0, 1, 2, 0, 1, 2), negOf(2), onceOf(1), joinOf(2, 2, x(0), x(0), x(1)), joinOf(0, 1, whole(1), x(0), x(0)), foldOf(api.FoldCount, 2, x(0)), foldOf(api.FoldSum, 2, x(0), x(0)), foldOf(api.FoldMin, 2, x(0), x(0)), foldOf(api.FoldMax, 2, whole(1), whole(2))),
		is(api.ErrArg, mapOf(0), mapOf(0, slices.Repeat([]api.Exp{x(0)}, 5)...), mapOf(0, x(1)), mapOf(0, x(0), x(1)), mapOf(0, badExp()), mapOf(0, x(0), loop()), mapOf(0, call(0))),
		is(api.ErrArg, keepOf(0, x(1)), keepOf(0, badExp()), keepOf(0, loop()), api.View{Op: api.ViewKeep, From: []int{0}}, api.View{Op: api.ViewKeep, From: []int{0}, F: []api.Exp{x(0), x(0)}}),
		is(api.ErrArg, sumOf(), sumOf(0, 0, 0, 0, 0, 0, 0)),
		is(api.ErrArg, joinOf(0, 1, x(0), x(0)), joinOf(0, 1, x(0), x(0), x(0), x(0)), joinOf(0, 1), joinOf(0, 1, x(1), x(0), x(0)), joinOf(0, 1, x(0), x(1), x(0)), joinOf(0, 1, x(0), x(0), x(2)), joinOf(0, 1, loop(), x(0), x(0)), joinOf(0, 1, x(0), badExp(), x(0)), joinOf(0, 1, x(0), x(0), badExp())),
		is(api.ErrArg, foldOf(-1, 0, x(0)), foldOf(-1, 0, x(0), x(0)), foldOf(4, 0, x(0), x(0)), foldOf(1<<62, 0, x(0), x(0)), foldOf(api.FoldCount, 0), foldOf(api.FoldCount, 0, x(0), x(0)), foldOf(api.FoldCount, 0, x(1)), foldOf(api.FoldSum, 0), foldOf(api.FoldSum, 0, x(0)), foldOf(api.FoldMin, 0, x(0)), foldOf(api.FoldMax, 0, x(0), x(0), x(0)), foldOf(api.FoldMax, 0, x(0), x(1)), foldOf(api.FoldMax, 0, badExp(), x(0))),
	)
	for _, v := range []api.View{mapOf(0, x(0)), keepOf(0, x(0)), sumOf(0), negOf(0), onceOf(0), foldOf(api.FoldCount, 0, x(0)), foldOf(api.FoldMax, 0, x(0), x(0))} {
		l = append(l, is(api.ErrArg, from(v), from(v, -1), from(v, 3), from(v, 4), from(v, 1<<62))...)
		if v.Op != api.ViewSum {
			l = append(l, is(api.ErrArg, from(v, 0, 0), from(v, 0, 1, 2))...)
		}
	}
	join := joinOf(0, 0, x(0), x(0), x(0))
	l = append(l, is(api.ErrArg, from(join), from(join, 0), from(join, 0, 0, 0), from(join, 0, 3), from(join, 3, 0), from(join, -1, 0), from(join, 0, -1), from(sumOf(), 0, 3), from(sumOf(), 0, -1))...)
	demandChecks(t, l)
}

func TestTypesOfViews(t *testing.T) { // P6.1: row types of all kinds but ViewRules
	const ins = `int; text; (int, text); [int + text]; ((int))`
	for i, s := range []struct {
		v    api.View
		want string
	}{
		{mapOf(2, part(1)), "text"}, {mapOf(2, tup(part(1), x(0)), tup(letters(""), tup(whole(1), letters("a")))), "(text, (int, text))"}, {mapOf(3, x(0)), "[int + text]"}, {mapOf(1, tup()), "()"}, {mapOf(2, part(0), part(1)), ""}, {mapOf(2, part(0), whole(1), part(0), x(0)), ""}, {mapOf(2, part(2)), ""}, {mapOf(0, part(0)), ""}, {mapOf(3, x(0), tup()), ""}, {mapOf(4, part(0), tup(whole(1))), "(int)"},
		{keepOf(2, part(0)), "(int, text)"}, {keepOf(1, exp(api.ExpSize, 0, x(0))), "text"}, {keepOf(3, less(x(0), x(0))), "[int + text]"}, {keepOf(2, part(1)), ""}, {keepOf(2, x(0)), ""}, {keepOf(3, x(0)), ""}, {keepOf(4, tup(whole(1))), ""},
		{sumOf(3), "[int + text]"}, {sumOf(3, 3, 3), "[int + text]"}, {sumOf(0, 1), ""}, {sumOf(2, 2, 2, 2, 2, 3), ""}, {sumOf(4, 2), ""},
		{negOf(4), "((int))"}, {onceOf(1), "text"},
		{joinOf(0, 2, x(0), part(0), tup(x(0), x(1))), "(int, (int, text))"}, {joinOf(2, 3, whole(1), whole(2), x(1)), "[int + text]"}, {joinOf(2, 2, x(0), x(0), get(1, x(1))), "text"}, {joinOf(0, 2, x(0), part(1), x(0)), ""}, {joinOf(2, 0, part(0), part(0), x(0)), ""}, {joinOf(0, 2, part(0), part(0), x(0)), ""}, {joinOf(0, 2, x(0), part(0), get(0, x(0))), ""}, {joinOf(0, 2, x(0), part(0), get(2, x(1))), ""}, {joinOf(4, 2, part(0), tup(part(0)), x(0)), "((int))"},
		{foldOf(api.FoldCount, 3, x(0)), "([int + text], int)"}, {foldOf(api.FoldSum, 2, part(1), part(0)), "(text, int)"}, {foldOf(api.FoldMin, 2, tup(), part(0)), "((), int)"}, {foldOf(api.FoldMax, 0, x(0), x(0)), "(int, int)"}, {foldOf(api.FoldSum, 2, part(0), part(1)), ""}, {foldOf(api.FoldMin, 2, part(0), x(0)), ""}, {foldOf(api.FoldMax, 2, part(2), part(0)), ""}, {foldOf(api.FoldCount, 2, part(2)), ""},
	} {
		p := prog(ins, nil, s.v)
		l, e := query.Types(p)
		switch {
		case s.want == "":
			demandChecks(t, []check{{p, api.ErrType}})
		case e != api.OK || !same(l, append(slices.Clone(p.Inputs), typ(s.want))):
			t.Errorf("%d: %v, %d, not %s", i, l, e, s.want)
		}
	}
	great := func(t api.Type, v api.View) api.Prog { return api.Prog{Inputs: []api.Type{t}, Views: []api.View{v}} }
	demandChecks(t, []check{ // the row type of a fold has two types more than its key, and one more around it
		{great(wide(38), foldOf(api.FoldCount, 0, x(0))), api.OK}, {great(wide(39), foldOf(api.FoldCount, 0, x(0))), api.ErrType}, {great(wide(40), foldOf(api.FoldMax, 0, whole(1), whole(1))), api.OK}, {great(narrow(5), foldOf(api.FoldMax, 0, x(0), whole(1))), api.OK}, {great(narrow(6), foldOf(api.FoldMax, 0, x(0), whole(1))), api.ErrType},
		{great(wide(39), mapOf(0, tup(x(0)))), api.OK}, {great(wide(40), mapOf(0, tup(x(0)))), api.ErrType}, {great(narrow(6), joinOf(0, 0, x(0), x(0), x(0))), api.OK}, {great(narrow(6), joinOf(0, 0, tup(x(0)), tup(x(0)), x(0))), api.ErrType},
	})
}

// someRules returns a program of two inputs of pairs, words, and a block of two views, in which a rule is one of the second view, of pairs; and a view behind it.
func someRules(l ...api.Rule) api.Prog {
	return prog("(int, int); (int, text); int", nil, rulesOf(1, pair), rulesOf(2, pair, rule("1 2")), rulesOf(2, pair, l...), rulesOf(3, "(text)"))
}

func TestFormsOfRules(t *testing.T) { // P6.1: 3 is ahead of the block 4 5, 6 behind it
	var l []check
	is := func(e api.Errno, rules ...api.Rule) {
		for _, r := range rules {
			l = append(l, check{someRules(r), e}, check{someRules(rule("7 8"), r), e})
		}
	}
	test := func(n int, e api.Exp) []api.Exp { return slices.Repeat([]api.Exp{e}, n) }
	is(api.OK, rule("1 2"), rule("x0 x0: 0 x0 x0"), rule("x1 x0: 0 x1 x0"), rule("x0 x1: 3 x0 x1, 4 x0 x1, 5 x0 x1, 1 x0 x2, 1 x3 x2, 0 x4 x5"), rule("x0 1: 0 x0 2, !0 x0 x0, !3 x0 x0"), rule("x0 x1: !0 x1 x0, 4 x0 x1"), rule("x0 x1: 0 x1 x0", test(4, x(1))...), rule("1 2", test(4, whole(0))...),
		rule("x11 x0: 0 x0 x1, 0 x2 x3, 0 x4 x5, 0 x6 x7, 0 x8 x9, 0 x10 x11", x(11)), rule("x11 x0: 0 x10 x11, 0 x8 x9, 0 x6 x7, 0 x4 x5, 0 x2 x3, 0 x0 x1", x(0)))
	is(api.ErrArg, rule(""), rule("1"), rule("1 2 3"), rule("x0 x0: 0 x0 x1, 0 x0 x1, 0 x0 x1, 0 x0 x1, 0 x0 x1, 0 x0 x1, 0 x0 x1"), rule("x0 x1: 0 x1 x0", test(5, x(1))...), rule("1 2", test(5, whole(1))...))
	is(api.ErrArg, rule("x0 1"), rule("x0 x1: 0 x0 x0"), rule("1 1: 0 x1 1"), rule("1 1: 0 x0 x2"), rule("x0 x2: 0 x0 x2"), rule("1 1: !0 x0 1"), rule("x0 x0: 0 x0 1, !0 x0 x1"), rule("x1 x0: 0 x0 1, !0 x0 x1"), rule("x12 x0: 0 x0 x1, 0 x2 x3, 0 x4 x5, 0 x6 x7, 0 x8 x9, 0 x10 x11"), rule("1 1: 0 x12 1"), rule("1 1: 0 1 x1"))
	is(api.ErrArg, rule("1 1: -1 1 1"), rule("1 1: 6 1 1"), rule("1 1: 6 x0"), rule("1 1: 7 1 1"), rule("1 1: !-1 1 1"), rule("1 1: !4 1 1"), rule("1 1: !5 1 1"), rule("1 1: !6 1 1"), rule("1 1: 0 1 1, !4 1 1"), rule("1 1: 4611686018427387904 1 1"))
	is(api.ErrArg, rule("x0 x0: 0 x0 1", x(1)), rule("1 1", x(0)), rule("x0 x1: 0 x0 x1", x(0), x(2)), rule("1 1", badExp()), rule("1 1", whole(1), loop()), rule("1 1", call(0)))
	for _, bad := range append(badValues(), api.Value{N: -1<<31 - 1}) {
		for _, n := range []int{0, 1} {
			r := rule("1 2: 0 3 4, !0 5 6")
			head := copied(r)
			head.Head[n].Value = bad
			body := copied(r)
			body.Body[n].Args[1-n].Value = bad
			is(api.ErrArg, head, body)
			unused := copied(rule("x0 x1: 0 x0 x1, !0 x1 x0"))
			unused.Head[n].Value, unused.Body[n].Args[n].Value = bad, bad
			is(api.OK, unused)
		}
	}
	for _, n := range []int{-2, -1 << 62, 12, 1 << 62} {
		for _, r := range []api.Rule{rule("1 2: 0 3 4"), rule("x0 x1: 0 x0 x1")} {
			head, body := copied(r), copied(r)
			head.Head[1].Var = n
			body.Body[0].Args[0].Var = n
			is(api.ErrArg, head, body)
		}
	}
	demandChecks(t, l)
	three := func(s string) api.Prog { return prog("(int, int, int)", nil, rulesOf(1, "(int)", rule(s))) }
	demandChecks(t, []check{{three("x11: 0 x0 x1 x2, 0 x3 x4 x5, 0 x6 x7 x8, 0 x9 x10 x11, 0 x0 x4 x8"), api.OK}, {three("x0: 0 x0 x1 x2, 0 x3 x4 x5, 0 x6 x7 x8, 0 x9 x10 x11, 0 x12 x0 x0"), api.ErrArg}, {three("x12: 0 x0 x1 x2, 0 x3 x4 x5, 0 x6 x7 x8, 0 x9 x10 x11, 0 x12 x0 x0"), api.ErrArg}})
	of := func(t api.Type, rules ...api.Rule) api.Prog {
		return api.Prog{Inputs: []api.Type{{}}, Views: []api.View{{Op: api.ViewRules, T: t, Rules: rules}}}
	}
	all := []check{{of(typ("int")), api.ErrArg}, {of(typ("[()]")), api.ErrArg}, {of(typ("text"), rule("")), api.ErrArg}, {of(typ("()"), slices.Repeat([]api.Rule{rule("")}, 8)...), api.OK}, {of(typ("()"), slices.Repeat([]api.Rule{rule("")}, 9)...), api.ErrArg}, {of(wide(40)), api.OK}, {of(narrow(6)), api.OK}}
	for _, bad := range badTypes() {
		all = append(all, check{of(bad), api.ErrArg}, check{of(bad, api.Rule{Head: make([]api.Term, len(bad.L))}), api.ErrArg})
	}
	demandChecks(t, all)
}

func TestTypesOfRules(t *testing.T) { // P6.1: terms, atoms and tests
	var l []check
	is := func(e api.Errno, rules ...api.Rule) {
		for _, r := range rules {
			l = append(l, check{someRules(r), e}, check{someRules(rule("7 8"), r), e})
		}
	}
	is(api.OK, rule("x0 x0: 1 x0 x1"), rule("x0 x0: 1 x0 x1, 1 x0 x1, !1 x0 x1"), rule(`1 2: 1 3 "a"`), rule("x0 x0: 1 x0 x1", exp(api.ExpSize, 0, x(1))), rule("x0 x0: 1 x0 x1", less(x(1), x(1))))
	is(api.ErrType, rule(`1 "a"`), rule("1 (1)"), rule(`1 1: 1 1 1`), rule(`1 1: 1 "a" "a"`), rule(`1 1: !0 1 "a"`), rule("x0 x1: 1 x0 x1"), rule("x1 x0: 1 x0 x1"), rule("1 1: 1 x0 x0"), rule("1 1: 1 x0 x1, 0 x0 x1"), rule("1 1: 0 x0 x1, 1 x0 x1"), rule("1 1: 1 x0 x1, !1 x1 x0"), rule("1 1: 1 x0 x1, 4 x0 x1"))
	is(api.ErrType, rule("1 1: 2"), rule("1 1: 2 1"), rule("x0 x0: 2 x0"), rule("1 1: 2 1 1"), rule("1 1: !2 1"), rule("1 1: 0"), rule("1 1: 0 1"), rule("1 1: 0 1 1 1"), rule("1 1: 0 1 1 1 1 1 1 1 1 1"), rule("x0 x1: 0 x0 x1, !0 x0"), rule("x0 x1: 0 x0 x1, 4 x0 x1 x1"), rule("x0 x1: 3 x0 x1, 5 x0"))
	is(api.ErrType, rule("1 1", letters("")), rule("1 1", tup()), rule("1 1", whole(1), letters("a")), rule("x0 x0: 1 x0 x1", x(1)), rule("x0 x0: 1 x0 x1", exp(api.ExpSize, 0, x(0))), rule("x0 x0: 1 x0 x1", less(x(0), x(1))))
	demandChecks(t, l)
}

func TestOrderOfErrors(t *testing.T) { // R1: what is not formed, ahead of what is not typed; then inputs; then what is too great
	untyped, fine, bad := fun(part(0), typ("int")), fun(whole(1)), []api.Zset{nil}
	with := func(p api.Prog, funs ...api.Fun) api.Prog {
		p.Funs = funs
		return p
	}
	great := []api.Zset{many(0, 20000)}
	twice := mapOf(0, x(0), tup(bin(api.OpAdd, part(0), whole(20000)), whole(0)))
	for i, s := range []struct {
		p   api.Prog
		ins []api.Zset
		e   api.Errno
	}{
		{with(prog(pair, nil, mapOf(0, x(0))), untyped), nil, api.ErrType}, {with(prog(pair, nil, mapOf(0, x(1))), untyped), nil, api.ErrArg}, {with(prog(pair, []int{7}, mapOf(0, x(0))), untyped), nil, api.ErrArg}, {with(prog(pair, nil, keepOf(0, x(0)), negOf(2)), fine), bad, api.ErrArg}, {prog(pair, nil, keepOf(0, x(0)), rulesOf(0, "()", rule("1"))), great, api.ErrArg}, {prog(pair, nil, twice, keepOf(0, x(0))), great, api.ErrType}, {prog(pair, nil, twice, rulesOf(0, "(int)", rule(`"a"`))), nil, api.ErrType},
		{prog(pair, nil, twice), nil, api.ErrRange}, {prog(pair, nil, twice), append(great, nil), api.ErrRange}, {prog(pair+"; int", nil, twice), append(great, great[0]), api.ErrRange}, {prog(pair+"; int", nil, twice), append(great, rows("1")), api.ErrFull}, {prog(pair, nil, twice), great, api.ErrFull}, {prog(pair, []int{0}, negOf(0), twice), great, api.ErrFull}, {prog(pair, nil, negOf(0)), great, api.OK},
	} {
		if l, e := query.Eval(s.p, s.ins); e != s.e || e != api.OK && len(l) > 0 {
			t.Errorf("Eval %d: %d", i, e)
		}
		if l, e := query.Answers(s.p, s.ins); e != s.e || e != api.OK && len(l) > 0 {
			t.Errorf("Answers %d: %d", i, e)
		}
	}
}

// junk puts something into the fields of a view that its kind does not name, and of terms that are variables.
func junk(v api.View, bad api.Type, worse api.Value) api.View {
	rule := api.Rule{Head: make([]api.Term, 99), Tests: []api.Exp{loop()}}
	if v.Op != api.ViewRules {
		v.T, v.Rules = bad, slices.Repeat([]api.Rule{rule}, 99)
	} else {
		v = copied(v)
		v.From, v.F = []int{-1, 99}, []api.Exp{loop()}
		for _, r := range v.Rules {
			for _, l := range append(lists(r.Body), r.Head) {
				for i := range l {
					if l[i].Var >= 0 {
						l[i].Value = worse
					}
				}
			}
		}
	}
	if v.Op != api.ViewFold && v.Op != api.ViewRules {
		v.N = -7
	}
	if v.Op == api.ViewSum || v.Op == api.ViewNeg || v.Op == api.ViewOnce {
		v.F = []api.Exp{loop()}
	}
	return v
}

func lists(body []api.Atom) (l [][]api.Term) {
	for _, a := range body {
		l = append(l, a.Args)
	}
	return l
}

func TestOtherFields(t *testing.T) { // R8: what a kind does not name is not looked at
	p := prog(pair+"; "+pair, []int{2, 3, 4, 5, 6, 7, 8, 9}, mapOf(0, x(0)), keepOf(0, part(0)), sumOf(0, 1), negOf(0), onceOf(0), joinOf(0, 1, part(0), part(1), x(1)), foldOf(api.FoldMax, 1, part(0), part(1)), rulesOf(4, pair, rule("x0 x2: 0 x0 x1, !1 x1 x0, 1 x0 x2")))
	ins := []api.Zset{rows("(1, 2): -1; (2, 3); (3, 3): 2"), rows("(2, 1); (2, 2); (3, 3): -1")}
	want := calls(setting{P: p, Ins: ins, Change: ins})
	for i, bad := range badTypes() {
		other := p
		other.Views = slices.Clone(p.Views)
		for n, v := range p.Views {
			other.Views[n] = junk(v, bad, badValues()[i])
		}
		if made := calls(setting{P: other, Ins: ins, Change: ins}); !same(made, want) || made[0].E != api.OK {
			t.Errorf("%d: %v, not %v", i, made, want)
		}
	}
}

func TestInputs(t *testing.T) { // P6.3, P6.4, P6.5: ErrRange
	p := prog(pair+"; [int + text]", nil, negOf(1))
	good := []api.Zset{rows("(1, 2): -3; (2, 1)"), rows(`#0 7; #1 "a": 2`)}
	itself := api.Value{Kind: api.ValueTuple, L: make([]api.Value, 1)}
	itself.L[0] = itself
	bad := [][]api.Zset{nil, good[:1], append(slices.Clone(good), nil), {good[1], good[0]}}
	for _, z := range []api.Zset{rows("(1, 2, 3)"), rows("1"), rows(`(1, "a")`), rows("(1)"), rows("(2, 1); (1, 2)"), rows("(1, 2); (1, 2)"), rows("(1, 2): 0"), {{Row: words(1, 1<<31), N: 1}}, {{Row: itself, N: 1}}, many(0, 20001)} {
		bad = append(bad, []api.Zset{z, good[1]})
	}
	for _, z := range []api.Zset{rows("1"), rows("#0 (1)"), rows("#1 1"), rows(`#2 "a"`), rows(`#1 "a"; #0 7`)} {
		bad = append(bad, []api.Zset{good[0], z})
	}
	for i, l := range bad {
		for k, o := range []outcome{relsAs(query.Eval(p, l)), relsAs(query.Answers(p, l)), relsAs(query.Apply(p, l, good)), relsAs(query.Apply(p, good, l)), relsAs(query.Apply(p, l, l)), versionsAs(query.Versions(p, [][]api.Zset{l})), versionsAs(query.Versions(p, [][]api.Zset{good, l})), versionsAs(query.Versions(p, [][]api.Zset{l, good}))} {
			if !same(o, outcome{E: api.ErrRange}) {
				t.Errorf("inputs %d, call %d: %v", i, k, o)
			}
		}
	}
	if l := must(query.Eval(p, good))(t); !same(l[2], rows(`#0 7: -1; #1 "a": -2`)) {
		t.Errorf("%v", l)
	}
}

func TestSumsTooGreat(t *testing.T) { // P6.4, P6.5: ErrFull, and the order of errors of changes
	p := prog(pair, nil)
	half, more, wrong := []api.Zset{many(0, 10000)}, []api.Zset{many(-1, 10001)}, []api.Zset{rows("1")}
	far := func(n int) []api.Zset { return []api.Zset{many(10000, n)} }
	if l := must(query.Apply(p, half, far(10000)))(t); len(l[0]) != 20000 {
		t.Errorf("%d rows", len(l[0]))
	}
	if l, e := query.Apply(p, half, far(10001)); e != api.ErrFull || len(l) > 0 {
		t.Errorf("%d", e)
	}
	if l := must(query.Apply(p, half, more))(t); len(l[0]) != 10001 {
		t.Errorf("%d rows", len(l[0]))
	}
	for i, s := range []struct {
		changes [][]api.Zset
		e       api.Errno
	}{
		{[][]api.Zset{half, far(10000)}, api.OK}, {[][]api.Zset{half, far(10001)}, api.ErrFull}, {[][]api.Zset{half, far(10001), wrong}, api.ErrFull}, {[][]api.Zset{half, wrong, far(10001)}, api.ErrRange}, {[][]api.Zset{half, half, far(10001)}, api.ErrFull}, {[][]api.Zset{half, far(10000), half}, api.OK}, {[][]api.Zset{far(10000), {many(0, 20000)}}, api.OK}, {[][]api.Zset{far(10000), {many(0, 20001)}}, api.ErrRange}, {[][]api.Zset{half, {many(-1, 1)}, far(10000)}, api.ErrFull},
	} {
		if v, e := query.Versions(p, s.changes); e != s.e || e == api.OK && len(v) != len(s.changes) || e != api.OK && len(v) > 0 {
			t.Errorf("%d: %d", i, e)
		}
	}
}

func TestRelationsTooGreat(t *testing.T) { // P6.3: ErrFull, of each kind of views, also of one that nobody asks for
	times := func(n int) []api.Zset { return []api.Zset{many(0, n), many(0, 20000/n)} }
	apart := []api.Zset{many(0, 10000), many(10000, 10000)}
	signs := append(many(0, 20000), many(20000, 0)...)
	for i := range signs {
		signs[i].N = 1 - i%2*2
	}
	wraps := many(0, 8)
	for i := range wraps {
		wraps[i].N = 1 << 62
	}
	far := tup(bin(api.OpAdd, part(0), whole(10000)), whole(0))
	quarter := joinOf(0, 1, whole(0), whole(0), tup(bin(api.OpDiv, part(0), whole(4)), get(0, x(1)))) // of wraps, each row comes four times, and is 0 times there
	both := tup(get(0, x(0)), get(0, x(1)))
	all := joinOf(0, 1, whole(0), whole(0), both)
	cross := rulesOf(0, pair, rule("x0 x1: 0 x0 0, 1 x1 0"))
	other := joinOf(0, 1, whole(0), whole(0), tup(bin(api.OpDiv, part(0), whole(2)), get(0, x(1)))) // of signs, each row comes once, and is taken away
	for i, s := range []struct {
		v    api.View
		ins  []api.Zset
		rows int
	}{
		{mapOf(0, x(0), far), apart, 20000}, {mapOf(0, x(0), far), []api.Zset{many(0, 10001), nil}, 10001 + 10000}, {mapOf(0, x(0), x(0), x(0), x(0)), []api.Zset{many(0, 20000), nil}, 20000}, {mapOf(0, x(0), far), []api.Zset{many(0, 20000), nil}, 30000}, {mapOf(0, bin(api.OpDiv, part(0), whole(2))), []api.Zset{signs, nil}, 0}, {mapOf(0, part(0), bin(api.OpSub, whole(-1), bin(api.OpDiv, part(0), whole(2)))), []api.Zset{signs, nil}, 20000},
		{sumOf(0, 1), apart, 20000}, {sumOf(0, 1), []api.Zset{many(0, 10001), apart[1]}, 20000}, {sumOf(0, 1), []api.Zset{apart[0], many(9999, 10002)}, 20001},
		{all, times(100), 20000}, {all, times(1), 20000}, {all, []api.Zset{many(0, 59), many(0, 339)}, 20001}, {all, []api.Zset{many(0, 3), many(0, 6667)}, 20001}, {all, []api.Zset{many(0, 20000), many(0, 20000)}, 20001}, {joinOf(0, 1, x(0), x(0), x(0)), []api.Zset{many(0, 20000), many(0, 20000)}, 20000},
		{other, []api.Zset{signs[:4], many(0, 20000)}, 0}, {other, []api.Zset{signs[:3], many(0, 20000)}, 20000}, {other, []api.Zset{signs[:6], many(0, 9000)}, 0}, {all, []api.Zset{signs[:2], many(0, 10000)}, 20000}, {all, []api.Zset{signs[:3], many(0, 6667)}, 20001}, {quarter, []api.Zset{wraps, many(0, 20000)}, 0}, {quarter, []api.Zset{wraps[:7], many(0, 20000)}, 20000}, {quarter, []api.Zset{wraps[:7], many(0, 10000)}, 10000},
		{cross, times(100), 20000}, {cross, times(1), 20000}, {cross, []api.Zset{many(0, 59), many(0, 339)}, 20001}, {cross, []api.Zset{many(0, 20000), many(0, 20000)}, 20001},
		{foldOf(api.FoldCount, 0, x(0)), []api.Zset{many(0, 20000), nil}, 20000}, {keepOf(0, whole(1)), []api.Zset{many(0, 20000), nil}, 20000},
	} {
		p := prog(pair+"; "+pair, []int{1}, s.v)
		want := api.OK
		if s.rows > 20000 {
			want = api.ErrFull
		}
		l, e := query.Eval(p, s.ins)
		if e != want || e == api.OK && len(l[2]) != s.rows || e != api.OK && len(l) > 0 {
			t.Errorf("%d: %d", i, e)
		}
		if l, e := query.Answers(p, s.ins); e != want || len(l) > 0 && !same(l, s.ins[1:]) {
			t.Errorf("Answers %d: %d", i, e)
		}
	}
}
