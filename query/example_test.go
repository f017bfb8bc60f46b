package query_test

import (
	"testing"

	"deltaworks/api"
	"deltaworks/query"
)

// ring is 1 2, 2 3 twice, and 3 1 so often.
func ring(n int) api.Zset {
	return api.Zset{rows("(1, 2)")[0], rows("(2, 3): 2")[0], {Row: words(3, 1), N: n}}
}

func TestExamples(t *testing.T) { // the chapter's table
	p := sample()
	if l := must(query.Types(p))(t); !same(l, []api.Type{typ("(int, int)"), typ("(int, int)"), typ("(int, int)"), typ("(int, int)"), typ("(int, int)"), typ("(int, int)")}) {
		t.Errorf("%v", l)
	}
	if l := must(query.Blocks(p))(t); !same(l, [][]int{{2, 3}}) {
		t.Errorf("%v", l)
	}
	l := must(query.Answers(p, []api.Zset{ring(1), rows("(1, 2)")}))(t)
	if !same(l, []api.Zset{rows("(1, 1); (1, 2); (1, 3); (2, 1); (2, 2); (2, 3); (3, 1); (3, 2); (3, 3)"), rows("(3, 1); (3, 2)"), rows("(1, 3); (2, 3); (3, 3)")}) {
		t.Errorf("%v", l)
	}
	l = must(query.Answers(p, []api.Zset{ring(-1), rows("(1, 2)")}))(t)
	if !same(l, []api.Zset{rows("(1, 2); (1, 3); (2, 3)"), rows("(3, 1); (3, 2)"), rows("(1, 2); (2, 1)")}) {
		t.Errorf("%v", l)
	}
	l = must(query.Eval(p, []api.Zset{ring(-1), rows("(1, 2)")}))(t)
	if len(l) != 6 || !same(l[0], ring(-1)) || !same(l[1], rows("(1, 2)")) || !same(l[5], rows("(1, 2): -1; (2, 3): -2; (3, 1): 1")) {
		t.Errorf("%v", l)
	}
	l = must(query.Apply(p, []api.Zset{ring(-1), rows("(1, 2)")}, []api.Zset{rows("(3, 1): 2"), nil}))(t)
	if !same(l, []api.Zset{ring(1), rows("(1, 2)")}) {
		t.Errorf("%v", l)
	}
}

func TestReach(t *testing.T) { // DOC.md: a program whose rules reach
	p := prog("(int, int)", []int{1}, rulesOf(0, "(int, int)", rule("x0 x1: 0 x0 x1"), rule("x0 x2: 1 x0 x1, 0 x1 x2")))
	for _, s := range [][2]string{{"(1, 2); (2, 3)", "(1, 2); (1, 3); (2, 3)"}, {"(1, 2)", "(1, 2)"}, {"", ""}} {
		if l := must(query.Answers(p, []api.Zset{rows(s[0])}))(t); !same(l, []api.Zset{rows(s[1])}) {
			t.Errorf("of %s: %v, not %s", s[0], l, s[1])
		}
	}
}

// twoInputs returns a program of two inputs of rows, whose answer is one view.
func twoInputs(rows string, v api.View) api.Prog { return prog(rows+"; "+rows, []int{2}, v) }

func TestViews(t *testing.T) { // P6.3: each kind, by hand
	a, b := rows("(1, 5): 2; (1, 6): -1; (2, 5): 1; (3, -4): -3"), rows("(1, 1): 1; (2, 5): 3; (2, 6): -1")
	second := get(1, x(1))
	for i, s := range []struct {
		v    api.View
		want string
	}{
		{mapOf(0, tup(part(1), part(0))), "(-4, 3): -3; (5, 1): 2; (5, 2): 1; (6, 1): -1"},
		{mapOf(0, part(0)), "1: 1; 2: 1; 3: -3"},
		{mapOf(0, whole(9)), "9: -1"},
		{mapOf(0, bin(api.OpMul, part(1), whole(0)), bin(api.OpMin, part(0), whole(1))), "0: -1; 1: -1"},
		{mapOf(0, x(0), x(0)), "(1, 5): 4; (1, 6): -2; (2, 5): 2; (3, -4): -6"},
		{mapOf(0, part(0), part(0), part(1), part(1)), "-4: -6; 1: 2; 2: 2; 3: -6; 5: 6; 6: -2"},
		{mapOf(1, less(part(0), whole(2)), less(whole(5), part(1))), "0: 6"},
		{keepOf(0, less(whole(0), part(1))), "(1, 5): 2; (1, 6): -1; (2, 5): 1"},
		{keepOf(0, part(1)), "(1, 5): 2; (1, 6): -1; (2, 5): 1; (3, -4): -3"},
		{keepOf(0, whole(0)), ""},
		{sumOf(0), "(1, 5): 2; (1, 6): -1; (2, 5): 1; (3, -4): -3"},
		{sumOf(0, 1), "(1, 1): 1; (1, 5): 2; (1, 6): -1; (2, 5): 4; (2, 6): -1; (3, -4): -3"},
		{sumOf(1, 0, 1, 1), "(1, 1): 3; (1, 5): 2; (1, 6): -1; (2, 5): 10; (2, 6): -3; (3, -4): -3"},
		{negOf(0), "(1, 5): -2; (1, 6): 1; (2, 5): -1; (3, -4): 3"},
		{onceOf(0), "(1, 5); (2, 5)"},
		{joinOf(0, 1, part(0), part(0), tup(part(1), second)), "(5, 1): 2; (5, 5): 3; (5, 6): -1; (6, 1): -1"},
		{joinOf(0, 1, part(1), part(1), tup(part(0), get(0, x(1)))), "(1, 2): 7; (2, 2): 3"},
		{joinOf(0, 1, x(0), x(0), x(1)), "(2, 5): 3"},
		{joinOf(0, 0, part(0), part(0), part(0)), "1: 1; 2: 1; 3: 9"},
		{joinOf(0, 1, whole(0), whole(0), whole(7)), "7: -3"},
		{joinOf(0, 1, whole(0), whole(1), whole(7)), ""},
		{joinOf(1, 0, letters("k"), letters("k"), get(0, x(1))), "1: 3; 2: 3; 3: -9"},
		{foldOf(api.FoldCount, 0, part(0)), "(1, 1); (2, 1); (3, -3)"},
		{foldOf(api.FoldCount, 0, whole(4)), "(4, -1)"},
		{foldOf(api.FoldCount, 0, less(part(0), whole(3))), "(0, -3); (1, 2)"},
		{foldOf(api.FoldSum, 0, part(0), part(1)), "(1, 4); (2, 5); (3, 12)"},
		{foldOf(api.FoldSum, 0, tup(), whole(1)), "((), -1)"},
		{foldOf(api.FoldMin, 0, part(0), part(1)), "(1, 5); (2, 5)"},
		{foldOf(api.FoldMax, 0, part(0), part(1)), "(1, 5); (2, 5)"},
		{foldOf(api.FoldMin, 0, letters("a"), part(0)), `("a", 1)`},
		{foldOf(api.FoldMax, 0, letters("a"), part(0)), `("a", 2)`},
		{foldOf(api.FoldMax, 1, whole(7), bin(api.OpSub, whole(0), part(1))), "(7, -1)"},
		{foldOf(api.FoldMin, 1, x(0), part(0)), "((1, 1), 1); ((2, 5), 2)"},
	} {
		if l := must(query.Eval(twoInputs("(int, int)", s.v), []api.Zset{a, b}))(t); !same(l, []api.Zset{a, b, rows(s.want)}) {
			t.Errorf("%d: %v, not %s", i, l, s.want)
		}
	}
}

func TestFoldsOfNothing(t *testing.T) { // a group whose counts make 0 is there; without a row that the collection has there is no least word
	p := prog("(int, int)", []int{1, 2, 3, 4}, foldOf(api.FoldCount, 0, part(0)), foldOf(api.FoldSum, 0, part(0), part(1)), foldOf(api.FoldMin, 0, part(0), part(1)), foldOf(api.FoldMax, 0, part(0), part(1)))
	for _, s := range []struct {
		in                      string
		count, sum, least, most string
	}{
		{"", "", "", "", ""},
		{"(1, 7): 1; (1, 8): -1", "(1, 0)", "(1, -1)", "(1, 7)", "(1, 7)"},
		{"(1, 7): -1", "(1, -1)", "(1, -7)", "", ""},
		{"(1, 7): 2; (1, 14): -1; (2, 0): 5", "(1, 1); (2, 5)", "(1, 0); (2, 0)", "(1, 7); (2, 0)", "(1, 7); (2, 0)"},
		{"(1, -3): 1; (1, 2): 1; (1, 9): 4; (1, 10): -4", "(1, 2)", "(1, -5)", "(1, -3)", "(1, 9)"},
		{"(1, 1): 4294967296; (2, 1): 2147483648; (3, 1): -2147483649", "(1, 0); (2, -2147483648); (3, 2147483647)", "(1, 0); (2, -2147483648); (3, 2147483647)", "(1, 1); (2, 1)", "(1, 1); (2, 1)"},
		{"(1, 2147483647): 2; (2, 2147483647): 3", "(1, 2); (2, 3)", "(1, -2); (2, 2147483645)", "(1, 2147483647); (2, 2147483647)", "(1, 2147483647); (2, 2147483647)"},
		{"(1, 2147483647): 9223372036854775807; (1, -2147483648): 9223372036854775807", "(1, -2)", "(1, 1)", "(1, -2147483648)", "(1, 2147483647)"},
	} {
		want := []api.Zset{rows(s.count), rows(s.sum), rows(s.least), rows(s.most)}
		if l := must(query.Answers(p, []api.Zset{inOrder(rows(s.in))}))(t); !same(l, want) {
			t.Errorf("%s: %v, not %v", s.in, l, want)
		}
	}
}

func TestCountsWrap(t *testing.T) { // R5: what comes to 0 is not there, but wherever a count is added it is what 64 bits keep
	big, half, square := 1<<62, -1<<63, 1<<32
	in := func(n, m int) []api.Zset {
		return []api.Zset{{{Row: words(0, 0), N: n}, {Row: words(0, 1), N: m}}, nil}
	}
	for i, s := range []struct {
		v    api.View
		ins  []api.Zset
		want api.Zset
	}{
		{mapOf(0, part(0)), in(big, big), api.Zset{{N: half}}},
		{mapOf(0, part(0)), in(half, half), nil},
		{mapOf(0, part(0)), in(half, -1), api.Zset{{N: 1<<63 - 1}}},
		{sumOf(0, 0), in(big, half), api.Zset{{Row: words(0, 0), N: half}}},
		{negOf(0), in(half, 1), api.Zset{{Row: words(0, 0), N: half}, {Row: words(0, 1), N: -1}}},
		{onceOf(0), in(half, 1<<63-1), rows("(0, 1)")},
		{joinOf(0, 0, x(0), x(0), part(1)), in(square, 3), rows("1: 9")},
		{joinOf(0, 0, part(0), part(0), whole(0)), in(1<<31, 1<<31), nil},
		{joinOf(0, 0, part(0), part(0), whole(0)), in(square-1, 1), nil},
		{joinOf(0, 0, part(0), part(0), part(0)), in(1<<16, 1<<16), api.Zset{{N: 1 << 34}}},
	} {
		if l := must(query.Answers(twoInputs("(int, int)", s.v), s.ins))(t); !same(l, []api.Zset{s.want}) {
			t.Errorf("%d: %v, not %v", i, l, s.want)
		}
	}
}

func TestRowsOfAnyType(t *testing.T) { // rows need not be tuples, but for rules
	p := prog("[int + text]", []int{1, 2, 3, 4, 5}, mapOf(0, tup(x(0))), rulesOf(0, "([int + text], int)", rule("x0 3: 1 x0"), rule("#1_\"q\" 4")), keepOf(2, bin(api.OpSame, part(1), whole(3))), foldOf(api.FoldCount, 0, whole(1)), onceOf(0))
	l := must(query.Answers(p, []api.Zset{rows(`#0 3: 2; #1 "": -1; #1 "a"`)}))(t)
	if !same(l, []api.Zset{rows(`(#0 3): 2; (#1 ""): -1; (#1 "a")`), rows(`(#0 3, 3); (#1 "a", 3); (#1 "q", 4)`), rows(`(#0 3, 3); (#1 "a", 3)`), rows("(1, 2)"), rows(`#0 3; #1 "a"`)}) {
		t.Errorf("%v", l)
	}
}

func TestFunctions(t *testing.T) { // expressions call the functions of the program, each of which calls others
	funs := []api.Fun{fun(whole(7)), fun(bin(api.OpAdd, x(0), call(0)), wordType()), fun(whole(8)), fun(less(call(1, x(0)), x(1)), wordType(), wordType()), fun(whole(9))}
	p := prog("(int, int)", []int{1, 2, 3, 4}, mapOf(0, tup(part(0), call(3, part(0), part(1)))), keepOf(0, call(3, part(0), part(1))), foldOf(api.FoldSum, 0, call(2), call(1, call(1, part(0)))),
		rulesOf(0, "(int)", rule("x1: 0 x1 x0", call(3, x(1), x(0)), call(0)), rule("x0: 0 x1 x0", bin(api.OpSub, call(2), call(4)), bin(api.OpSub, call(4), whole(9)))))
	p.Funs = funs
	l := must(query.Answers(p, []api.Zset{rows("(1, 8); (1, 9); (2, 10)")}))(t)
	if !same(l, []api.Zset{rows("(1, 0); (1, 1); (2, 1)"), rows("(1, 9); (2, 10)"), rows("(8, 46)"), rows("(1); (2)")}) {
		t.Errorf("%v", l)
	}
}

func TestRules(t *testing.T) { // P6.3: one rule, or some, of rows 0 and 1
	a, b := rows("(1, 1): 2; (1, 2); (2, 3); (3, 1): -1; (4, 4)"), rows("(1, 2); (2, 2): 7; (3, 3): -2; (4, 1)")
	for i, s := range []struct {
		t     string
		rules []api.Rule
		want  string
	}{
		{"(int, int)", nil, ""},
		{"(int, int)", []api.Rule{rule("x0 x1: 0 x0 x1")}, "(1, 1); (1, 2); (2, 3); (4, 4)"},
		{"(int, int)", []api.Rule{rule("x1 x0: 1 x1 x0"), rule("x0 x0: 1 x0 x1")}, "(1, 1); (1, 2); (2, 2); (4, 1); (4, 4)"},
		{"(int)", []api.Rule{rule("x0: 0 x0 x0")}, "(1); (4)"},
		{"(int)", []api.Rule{rule("x0: 0 x0 1")}, "(1)"},
		{"(int)", []api.Rule{rule("x0: 0 3 x0")}, ""},
		{"(int)", []api.Rule{rule("x0: 0 1 x0, 0 x0 3")}, "(2)"},
		{"()", []api.Rule{rule("")}, "()"},
		{"()", []api.Rule{rule(": 0 1 2, !1 1 1")}, "()"},
		{"()", []api.Rule{rule(": 0 1 2, !1 1 2")}, ""},
		{"()", []api.Rule{rule(": 0 3 1")}, ""},
		{"()", []api.Rule{rule(": !0 3 1")}, "()"},
		{"()", []api.Rule{rule("", whole(0)), rule("", whole(2), whole(0))}, ""},
		{"()", []api.Rule{rule("", whole(0)), rule("", whole(2), whole(-1))}, "()"},
		{"(int)", []api.Rule{rule("3"), rule("5"), rule("3")}, "(3); (5)"},
		{"(int, int)", []api.Rule{rule("x0 x2: 0 x0 x1, 1 x2 x1")}, "(1, 1); (1, 2); (1, 4)"},
		{"(int, int)", []api.Rule{rule("x0 x2: 0 x0 x1, 0 x1 x2")}, "(1, 1); (1, 2); (1, 3); (4, 4)"},
		{"(int, int)", []api.Rule{rule("x0 x1: !1 x0 x1, 0 x0 x1")}, "(1, 1); (2, 3); (4, 4)"},
		{"(int, int)", []api.Rule{rule("x0 x1: 0 x0 x1, !0 x1 x0, !1 x0 x1")}, "(2, 3)"},
		{"(int, int)", []api.Rule{rule("x0 x1: 0 x0 x1", less(x(0), x(1)))}, "(1, 2); (2, 3)"},
		{"(int, int)", []api.Rule{rule("x0 x1: 0 x0 x1", x(0), less(x(0), x(1)), whole(1), less(x(0), whole(2)))}, "(1, 2)"},
		{"(int, int)", []api.Rule{rule("x0 x1: 0 x0 x2, 1 x1 x3", less(x(0), x(1)), bin(api.OpSame, x(2), x(3)))}, "(1, 2); (1, 4)"},
		{"(int)", []api.Rule{rule("x2: 0 x0 x0, 0 x1 x1, 1 x2 x3", bin(api.OpSub, x(1), x(0)), bin(api.OpMod, x(3), whole(2)))}, "(4)"},
		{"(int, int, int)", []api.Rule{rule("x0 9 x0: 0 x0 x1, 1 x0 x2")}, "(1, 9, 1); (2, 9, 2); (4, 9, 4)"},
		{"(int, int, int, int, int, int)", []api.Rule{rule("x0 x2 x4 x6 x8 x10: 0 x0 x1, 0 x2 x3, 0 x4 x5, 0 x6 x7, 0 x8 x9, 0 x10 x11", bin(api.OpSame, x(0), whole(4)), bin(api.OpSame, x(2), whole(2)), bin(api.OpSame, bin(api.OpAnd, bin(api.OpAnd, x(5), x(7)), bin(api.OpAnd, x(9), x(11))), whole(3)))}, "(4, 2, 2, 2, 2, 2)"},
	} {
		p := twoInputs("(int, int)", rulesOf(3, s.t, s.rules...))
		if l := must(query.Answers(p, []api.Zset{a, b}))(t); !same(l, []api.Zset{rows(s.want)}) {
			t.Errorf("%d: %v, not %s", i, l, s.want)
		}
	}
}

func TestBlocks(t *testing.T) { // P6.2, and relations of blocks, which name each other
	even, odd := rule("x0: 3 x1, 0 x1 x0"), rule("x0: 2 x1, 0 x1 x0")
	p := prog("(int, int); (int)", []int{2, 3, 4, 5, 6, 7},
		rulesOf(-5, "(int)", rule("0"), even), rulesOf(-5, "(int)", odd),
		rulesOf(1<<62, "(int)", rule("x0: 2 x0, !3 x0, !1 x0")),
		rulesOf(-5, "(int)", rule("x0: 4 x0"), rule("x0: 5 x1, 0 x1 x2, 0 x2 x0")),
		onceOf(5),
		rulesOf(-5, "(int)", rule("x0: 5 x0, !6 x0"), rule("8")), sumOf(7))
	if l := must(query.Blocks(p))(t); !same(l, [][]int{{2, 3}, {4}, {5}, {7}}) {
		t.Errorf("%v", l)
	}
	l := must(query.Answers(p, []api.Zset{rows("(0, 1); (1, 2); (2, 3); (3, 4); (5, 6); (6, 5); (9, 8)"), rows("(4)")}))(t)
	if !same(l, []api.Zset{rows("(0); (2); (4)"), rows("(1); (3)"), rows("(0); (2)"), rows("(0); (2); (4)"), rows("(0); (2); (4)"), rows("(8)")}) {
		t.Errorf("%v", l)
	}
	all := api.Prog{Inputs: p.Inputs}
	for range 40 {
		all.Views = append(all.Views, rulesOf(7, "(int)"))
	}
	if l := must(query.Blocks(all))(t); len(l) != 1 || len(l[0]) != 40 || l[0][0] != 2 || l[0][39] != 41 {
		t.Errorf("%v", l)
	}
	for i := range all.Views {
		all.Views[i].N = i / 2 % 2
	}
	if l := must(query.Blocks(all))(t); len(l) != 20 || !same(l[19], []int{40, 41}) {
		t.Errorf("%v", l)
	}
	if l := must(query.Blocks(prog("int", nil, negOf(0), negOf(1))))(t); len(l) > 0 {
		t.Errorf("%v", l)
	}
}

func TestLongRoads(t *testing.T) { // rules that take as many rounds as there are rows, and relations as great as can be
	p := prog("(int, int)", []int{1}, rulesOf(0, "(int)", rule("0"), rule("x1: 1 x0, 0 x0 x1")))
	var road api.Zset
	for i := range 19999 {
		road = append(road, api.Item{Row: words(i, i+1), N: 1})
	}
	l := must(query.Answers(p, []api.Zset{road}))(t)
	if len(l[0]) != 20000 || !same(l[0][19999], rows("(19999)")[0]) {
		t.Errorf("%d rows", len(l[0]))
	}
	p = prog("(int, int)", []int{1}, rulesOf(0, "(int, int)", rule("x0 x1: 0 x0 x1"), rule("x0 x2: 1 x0 x1, 1 x1 x2")))
	if l := must(query.Answers(p, []api.Zset{road[:199]}))(t); len(l[0]) != 19900 {
		t.Errorf("%d rows", len(l[0]))
	}
	if l, e := query.Answers(p, []api.Zset{road[:200]}); e != api.ErrFull || len(l) > 0 {
		t.Errorf("%d", e)
	}
}

func TestWideRules(t *testing.T) { // what variables that the head does not name may be is no matter, however many there are
	p := prog("(int, int)", []int{1, 2}, rulesOf(0, "(int)", rule("x0: 0 x1 x2, 0 x3 x4, 0 x5 x6, 0 x7 x8, 0 x9 x10, 0 x0 x11"), rule("x0: 0 x0 x1, 0 x2 x3, 0 x4 x5, !0 x1 x0", less(x(2), x(5)), less(whole(19990), x(0)))),
		rulesOf(1, "(int)", rule("x6: 0 x0 x1, 0 x1 x2, 0 x2 x3, 0 x3 x4, 0 x4 x5, 0 x5 x6")))
	var road api.Zset
	for i := range 20000 {
		road = append(road, api.Item{Row: words(i, i+1), N: 1})
	}
	l := must(query.Answers(p, []api.Zset{road}))(t)
	if len(l[0]) != 20000 || len(l[1]) != 19995 {
		t.Errorf("%d and %d rows", len(l[0]), len(l[1]))
	}
	var dense api.Zset
	for i := range 100 {
		for k := range 100 {
			dense = append(dense, api.Item{Row: words(i, k), N: 1})
		}
	}
	if l := must(query.Answers(p, []api.Zset{dense}))(t); len(l[0]) != 100 || len(l[1]) != 100 {
		t.Errorf("%d and %d rows", len(l[0]), len(l[1]))
	}
}

func TestApplyAndVersions(t *testing.T) { // P6.4, P6.5
	p := prog("(int); text", nil, negOf(0))
	a, b := rows("(1): 2; (2): -1; (5)"), rows(`"a"; "b": 4`)
	if l := must(query.Apply(p, []api.Zset{a, b}, []api.Zset{rows("(1): -2; (2): 3; (7)"), nil}))(t); !same(l, []api.Zset{rows("(2): 2; (5): 1; (7): 1"), b}) {
		t.Errorf("%v", l)
	}
	if l := must(query.Apply(p, []api.Zset{nil, nil}, []api.Zset{a, b}))(t); !same(l, []api.Zset{a, b}) {
		t.Errorf("%v", l)
	}
	v := must(query.Versions(p, [][]api.Zset{{a, nil}, {nil, b}, {nil, nil}, {rows("(1): -2"), rows(`"b": -5`)}}))(t)
	if !same(v, [][]api.Zset{{a, nil}, {a, b}, {a, b}, {rows("(2): -1; (5)"), rows(`"a"; "b": -1`)}}) {
		t.Errorf("%v", v)
	}
	for _, none := range [][][]api.Zset{nil, {}} {
		if v := must(query.Versions(p, none))(t); len(v) > 0 {
			t.Errorf("%v", v)
		}
	}
}
