package calc_test

import (
	"slices"
	"strings"
	"testing"

	"deltaworks/api"
	"deltaworks/calc"
)

// someFuns are functions of one parameter, of none, and of eight.
func someFuns() []api.Fun {
	return []api.Fun{fun(x(0), words()), fun(whole(1)), fun(x(7), manyOf(words(), 8)...)}
}

// places lists what functions make of an expression with two variables, at each place at which one is given, whose functions are known (those of someFuns), or not.
func places(e api.Exp) (known, unknown map[string]outcome) {
	funs, two := someFuns(), []api.Type{words(), texts()}
	with := append(someFuns(), fun(e, two...))
	known = map[string]outcome{
		"Check": {E: calc.Check(with)}, "Results": typesAs(calc.Results(with)), "TypeOf with the function": typeAs(calc.TypeOf(with, nil, whole(1))), "Eval with the function": valueAs(calc.Eval(with, nil, nil, whole(1))),
		"TypeOf": typeAs(calc.TypeOf(funs, two, e)), "Eval": valueAs(calc.Eval(funs, two, []api.Value{num(1), text("a")}, e)),
	}
	unknown = map[string]outcome{
		"Uses": readsAs(calc.Uses(e, 2)), "Put": putAs(calc.Put(e, []api.Exp{x(0), x(1)}, 2)), "Put of it": putAs(calc.Put(x(0), []api.Exp{e, whole(1)}, 2)), "Put of it, last": putAs(calc.Put(x(0), []api.Exp{x(0), e}, 2)),
	}
	return known, unknown
}

// around lists an expression, and others in which it stands, as it is, or in a part that binds nothing.
func around(e api.Exp) []api.Exp {
	return []api.Exp{e, tup(whole(1), e), let(e, whole(1)), cases(e, whole(1)), ifs(whole(1), e, whole(2)), call(0, e), cut(letters("a"), e, x(0))}
}

func demandBad(t *testing.T, i int, made map[string]outcome) {
	t.Helper()
	for name, o := range made {
		if !same(o, outcome{E: api.ErrArg}) {
			t.Errorf("%s of the bad expression %d: %v", name, i, o)
		}
	}
}

// goodForms lists expressions that are formed, with two variables, whatever functions they may call; not all are typed.
func goodForms() []api.Exp {
	six := tuples(tuples(tuples(tuples(tuples(tuples())))))
	forty := tuples(append(manyOf(tuples(manyOf(words(), 4)...), 7), tuples(manyOf(words(), 3)...))...)
	l := []api.Exp{
		x(0), x(1), whole(api.WordLow), whole(api.WordHigh), letters(""), letters(strings.Repeat("~", 100)), letters(" "), tup(), tup(slices.Repeat([]api.Exp{x(0)}, 8)...), get(0, x(0)), get(7, x(0)),
		tagged(0, x(0), words()), tagged(7, x(0), manyOf(texts(), 8)...), tagged(1, x(0), six, forty), tagged(0, x(0), tuples(), sums(words())),
		cases(x(0), x(2)), cases(x(0), slices.Repeat([]api.Exp{x(2)}, 8)...), let(x(0), x(2)), let(x(0), let(x(2), add(x(3), x(2)))), let(let(x(0), x(2)), x(2)), cases(let(x(0), x(2)), x(2), let(x(2), x(3)), x(1)), tup(let(x(0), x(2)), let(x(1), x(2))), let(x(0), cases(x(2), x(3), whole(1), let(x(3), x(4)))),
		ifs(x(0), x(1), x(0)), bin(0, x(0), x(1)), bin(api.Ops-1, x(0), x(1)), size(x(0)), join(x(0), x(1)), cut(x(0), x(0), x(1)), call(0, x(0)),
		sized(59), sized(60), deep(19), tup(deep(19)), let(x(0), add(x(2), sized(56))),
	}
	return l
}

func TestGoodForms(t *testing.T) { // P5.1, P5.2, P5.3, P5.5, P5.6
	for i, e := range goodForms() {
		known, unknown := places(e)
		for name, o := range known {
			if o.E != api.OK && (o.E != api.ErrType || !same(o, outcome{E: o.E})) {
				t.Errorf("%s of the good expression %d: %v", name, i, o)
			}
		}
		for name, o := range unknown {
			if o.E != api.OK {
				t.Errorf("%s of the good expression %d: %v", name, i, o)
			}
		}
		if !same(unknown["Put"].Put, e) || !same(unknown["Put of it"].Put, e) {
			t.Errorf("%v became %v and %v", e, unknown["Put"].Put, unknown["Put of it"].Put)
		}
	}
}

// badForms lists expressions that are not formed, whatever functions they may call.
func badForms() []api.Exp {
	l := []api.Exp{
		x(2), x(-1), x(1 << 62), let(x(2), whole(1)), let(whole(1), x(3)), tup(let(x(0), x(2)), x(2)), let(let(x(0), x(2)), x(3)), cases(x(2), x(2)), cases(x(0), x(3)), cases(x(0), x(2), x(3)), ifs(x(0), x(1), x(2)), call(0, x(2)),
		whole(1 << 31), whole(-1<<31 - 1), whole(-1 << 63), letters(strings.Repeat("~", 101)), letters("\x1f"), letters("\x7f"), letters("\u00e9"), letters("ab\n"),
		get(-1, x(0)), get(8, x(0)), get(1<<62, x(0)), tagged(0, x(0)), tagged(-1, x(0), words()), tagged(1, x(0), words()), tagged(8, x(0), manyOf(words(), 8)...), tagged(0, x(0), manyOf(words(), 9)...),
		bin(-1, x(0), x(0)), bin(api.Ops, x(0), x(0)), call(-1), call(20), call(1<<62, x(0)), exp(-1, 0), exp(14, 0), exp(1<<62, 0, x(0)), exp(-1<<63, 0),
		sized(61), tup(sized(60)), deep(21), tup(tup(deep(19))), tup(make([]api.Exp, 1<<20)...),
	}
	for op, most := range []int{0, 0, 0, 8, 1, 1, 9, 2, 3, 2, 1, 2, 3, 8} {
		e := exp(op, 0, slices.Repeat([]api.Exp{x(0)}, most+1)...)
		e.T = []api.Type{words()}
		l = append(l, e)
		itself := exp(op, 0, slices.Repeat([]api.Exp{x(0)}, max(1, most))...)
		itself.T = []api.Type{words()}
		itself.L[len(itself.L)-1] = itself
		l = append(l, itself)
	}
	for op, least := range []int{0, 0, 0, 0, 1, 1, 2, 2, 3, 2, 1, 2, 3, 0} {
		if least > 0 {
			e := exp(op, 0, slices.Repeat([]api.Exp{x(0)}, least-1)...)
			e.T = []api.Type{words()}
			l = append(l, e)
		}
	}
	for _, bad := range badTypes() {
		l = append(l, tagged(0, x(0), bad), tagged(0, x(0), words(), bad), tagged(1, x(0), words(), texts(), bad))
	}
	return l
}

func TestBadForms(t *testing.T) { // P1, P5.1, P5.2, P5.3, P5.5, P5.6, R2
	for i, bad := range badForms() {
		for _, e := range around(bad) {
			known, unknown := places(e)
			demandBad(t, i, known)
			demandBad(t, i, unknown)
		}
	}
}

func TestCallsThatMayBe(t *testing.T) { // P5.1, P5.2, P5.3; P5.5, P5.6: where functions are not given each call may be
	for i, e := range []api.Exp{call(3), call(19, x(0)), call(0), call(0, x(0), x(0)), call(1, x(0)), call(2), call(2, slices.Repeat([]api.Exp{x(0)}, 7)...)} {
		known, unknown := places(e)
		demandBad(t, i, known)
		for name, o := range unknown {
			if o.E != api.OK {
				t.Errorf("%s of %v: %v", name, e, o)
			}
		}
	}
	for n := range api.ProgFuns {
		for parts := range api.Wide + 1 {
			e := call(n, slices.Repeat([]api.Exp{x(1)}, parts)...)
			if l, f := calc.Uses(e, 2); f != api.OK || !slices.Equal(l, slices.Repeat([]int{1}, min(parts, 1))) {
				t.Errorf("Uses of %v: %v, %d", e, l, f)
			}
		}
	}
	for _, e := range []api.Exp{call(0, x(0)), call(1), call(2, slices.Repeat([]api.Exp{x(0)}, 8)...)} {
		known, _ := places(e)
		for name, o := range known {
			if o.E != api.OK {
				t.Errorf("%s of %v: %v", name, e, o)
			}
		}
	}
}

// fill puts something into the fields of an expression that its operation does not name, with the types given.
func fill(e api.Exp, t api.Type) api.Exp {
	names := []string{"N", "N", "S", "", "N", "NT", "", "", "", "N", "", "", "", "N"}[e.Op]
	if !strings.Contains(names, "N") {
		e.N = -7
	}
	if !strings.Contains(names, "S") {
		e.S = "\x00"
	}
	if !strings.Contains(names, "T") {
		e.T = []api.Type{t, t}
	}
	l := make([]api.Exp, len(e.L))
	for i, part := range e.L {
		l[i] = fill(part, t)
	}
	e.L = l
	return e
}

func TestOtherFields(t *testing.T) { // P5.1 to P5.6, R8: what an operation does not name is not looked at
	for i, e := range goodForms() {
		for _, bad := range badTypes() {
			known, unknown := places(e)
			k, u := places(fill(e, bad))
			for name, o := range known {
				if !same(k[name], o) {
					t.Errorf("%s of the expression %d, with other fields: %v, not %v", name, i, k[name], o)
				}
			}
			for name, o := range unknown {
				if !same(u[name], o) {
					t.Errorf("%s of the expression %d, with other fields: %v, not %v", name, i, u[name], o)
				}
			}
		}
	}
}

// greatest returns functions, the last of which has the whole size n, which is from 1991 to 2040.
func greatest(n int) []api.Fun {
	first := fun(sized(60))
	second := fun(added(slices.Repeat([]api.Exp{call(0)}, 8)...))
	return []api.Fun{first, second, fun(added(call(1), call(1), call(1), call(1), sized(n-1988)))}
}

func TestFunctions(t *testing.T) { // P5.1
	loop := fun(call(0, x(0)), words())
	itself := fun(tup(make([]api.Exp, 1)...))
	itself.Body.L[0] = itself.Body
	one := fun(x(0), words())
	for i, f := range []struct {
		l []api.Fun
		e api.Errno
	}{
		{nil, api.OK}, {[]api.Fun{}, api.OK}, {[]api.Fun{one}, api.OK}, {slices.Repeat([]api.Fun{one}, 20), api.OK}, {slices.Repeat([]api.Fun{one}, 21), api.ErrArg}, {make([]api.Fun, 1), api.ErrArg},
		{[]api.Fun{fun(x(7), manyOf(words(), 8)...)}, api.OK}, {[]api.Fun{fun(x(8), manyOf(words(), 9)...)}, api.ErrArg}, {[]api.Fun{fun(x(0), manyOf(words(), 9)...)}, api.ErrArg}, {[]api.Fun{fun(x(1), words())}, api.ErrArg}, {[]api.Fun{fun(x(0))}, api.ErrArg},
		{[]api.Fun{loop}, api.ErrArg}, {[]api.Fun{fun(call(1)), fun(whole(1))}, api.ErrArg}, {[]api.Fun{fun(whole(1)), fun(call(0)), fun(add(call(0), call(1)))}, api.OK}, {[]api.Fun{fun(whole(1)), fun(call(2)), fun(whole(1))}, api.ErrArg}, {[]api.Fun{itself}, api.ErrArg}, {[]api.Fun{one, itself}, api.ErrArg},
		{greatest(1999), api.OK}, {greatest(2000), api.OK}, {greatest(2001), api.ErrArg}, {append(greatest(2000), fun(call(1))), api.OK}, {append(greatest(2000), fun(call(2))), api.ErrArg}, {append(greatest(1999), fun(call(2))), api.OK},
		{[]api.Fun{fun(size(whole(1)))}, api.ErrType}, {[]api.Fun{fun(size(whole(1))), fun(x(0))}, api.ErrArg}, {[]api.Fun{one, fun(call(0, letters("")))}, api.ErrType}, {[]api.Fun{fun(size(call(0)))}, api.ErrArg}, {[]api.Fun{one, fun(size(x(0)), texts()), fun(call(1, call(0, whole(1))))}, api.ErrType},
	} {
		l, e := calc.Results(f.l)
		if e != f.e || calc.Check(f.l) != f.e || e != api.OK && len(l) > 0 || e == api.OK && !same(l, manyOf(words(), len(f.l))) {
			t.Errorf("%d: %v, errors %d and %d", i, l, e, calc.Check(f.l))
		}
	}
	for i, bad := range badTypes() {
		for _, l := range [][]api.Fun{{fun(whole(1), bad)}, {one, fun(x(0), words(), bad)}, {fun(size(whole(1))), fun(x(0), bad)}} {
			for name, o := range calls(setting{Funs: l}) {
				if name != "Uses" && name != "Put" && !same(o, outcome{E: api.ErrArg}) {
					t.Errorf("%s with the bad type %d: %v", name, i, o)
				}
			}
		}
	}
	if e, f := calc.Eval(greatest(2000), nil, nil, added(slices.Repeat([]api.Exp{call(2)}, 30)...)); f != api.OK || e.N != 30*(4*8*sizedWord(60)+sizedWord(12)) {
		t.Errorf("%v, %d", e, f) // an expression that is no function may be of any whole size
	}
}

// sizedWord returns the value of sized(n): each leaf in it is 1.
func sizedWord(n int) int {
	if n <= 2 {
		return 1
	}
	return sizedWord((n-1)/2) + sizedWord(n-1-(n-1)/2)
}

func TestOrderOfErrors(t *testing.T) { // P5.1, P5.2, P5.3, R1
	two, good, untyped, bad := []api.Type{words(), texts()}, x(0), size(x(0)), x(2)
	fine, wrong, broken := fun(x(0), words()), fun(size(x(0)), words()), fun(x(1), words())
	values := []api.Value{num(1), text("")}
	for i, s := range []struct {
		funs      []api.Fun
		types     []api.Type
		values    []api.Value
		e         api.Exp
		typ, eval api.Errno
	}{
		{[]api.Fun{fine}, two, values, good, api.OK, api.OK},
		{[]api.Fun{fine}, two, values[:1], good, api.OK, api.ErrRange},
		{[]api.Fun{fine}, two, values[:1], untyped, api.ErrType, api.ErrType},
		{[]api.Fun{fine}, two, values[:1], bad, api.ErrArg, api.ErrArg},
		{[]api.Fun{wrong}, two, values[:1], good, api.ErrType, api.ErrType},
		{[]api.Fun{wrong}, two, values, bad, api.ErrArg, api.ErrArg},
		{[]api.Fun{wrong}, []api.Type{words(), sums()}, values, good, api.ErrArg, api.ErrArg},
		{[]api.Fun{wrong, broken}, two, values, good, api.ErrArg, api.ErrArg},
		{[]api.Fun{broken}, two, values, untyped, api.ErrArg, api.ErrArg},
		{nil, []api.Type{words(), sums()}, nil, good, api.ErrArg, api.ErrArg},
		{nil, []api.Type{words(), sums()}, nil, untyped, api.ErrArg, api.ErrArg},
		{nil, manyOf(words(), 40), slices.Repeat(values[:1], 40), add(x(39), good), api.OK, api.OK},
		{nil, manyOf(words(), 41), slices.Repeat(values[:1], 41), good, api.ErrArg, api.ErrArg},
		{nil, manyOf(words(), 1<<20), nil, untyped, api.ErrArg, api.ErrArg},
		{nil, nil, values, whole(1), api.OK, api.ErrRange},
	} {
		if u, e := calc.TypeOf(s.funs, s.types, s.e); e != s.typ || e != api.OK && !same(u, api.Type{}) {
			t.Errorf("TypeOf %d: %v, %d", i, u, e)
		}
		if v, e := calc.Eval(s.funs, s.types, s.values, s.e); e != s.eval || e != api.OK && !same(v, api.Value{}) {
			t.Errorf("Eval %d: %v, %d", i, v, e)
		}
	}
	for i, bad := range badTypes() {
		for _, l := range [][]api.Type{{bad}, {words(), bad}} {
			if u, e := calc.TypeOf(nil, l, whole(1)); e != api.ErrArg || !same(u, api.Type{}) {
				t.Errorf("TypeOf with the bad type %d: %v, %d", i, u, e)
			}
		}
	}
}

func TestValuesOfTheirTypes(t *testing.T) { // P5.3
	types := []api.Type{words(), texts(), tuples(words(), texts()), sums(words(), texts())}
	good := []api.Value{num(1), text("a"), tuple(num(1), text("")), tag(1, text("b"))}
	if v, e := calc.Eval(nil, types, good, tup(x(3), x(2), x(1), x(0))); e != api.OK || !same(v, tuple(good[3], good[2], good[1], good[0])) {
		t.Errorf("%v, %d", v, e)
	}
	for i := range types {
		others := append(badValues(), tuple(num(1)), tuple(num(1), num(1)), tag(0, text("b")), tag(2, text("b")), tag(1, num(1)))
		for k, v := range good {
			if k != i {
				others = append(others, v)
			}
		}
		for k, bad := range others {
			l := slices.Clone(good)
			l[i] = bad
			if v, e := calc.Eval(nil, types, l, whole(1)); e != api.ErrRange || !same(v, api.Value{}) {
				t.Errorf("the bad value %d of the type %d: %v, %d", k, i, v, e)
			}
		}
	}
	for _, l := range [][]api.Value{nil, good[:3], append(slices.Clone(good), num(1))} {
		if v, e := calc.Eval(nil, types, l, whole(1)); e != api.ErrRange || !same(v, api.Value{}) {
			t.Errorf("%d values: %v, %d", len(l), v, e)
		}
	}
}

func TestHowManyVariables(t *testing.T) { // P5.5, P5.6
	for _, vars := range []int{-1, 41, 1 << 62, -1 << 63} {
		if l, e := calc.Uses(whole(1), vars); e != api.ErrArg || len(l) > 0 {
			t.Errorf("Uses with %d variables: %v, %d", vars, l, e)
		}
		if p, e := calc.Put(whole(1), nil, vars); e != api.ErrArg || !same(p, api.Exp{}) {
			t.Errorf("Put with %d variables: %v, %d", vars, p, e)
		}
	}
	for _, vars := range []int{0, 1, 39, 40} {
		if l, e := calc.Uses(whole(1), vars); e != api.OK || len(l) > 0 {
			t.Errorf("Uses with %d variables: %v, %d", vars, l, e)
		}
		if p, e := calc.Put(whole(1), nil, vars); e != api.OK || !same(p, whole(1)) {
			t.Errorf("Put with %d variables: %v, %d", vars, p, e)
		}
		if p, e := calc.Put(x(0), []api.Exp{x(vars)}, vars); e != api.ErrArg || !same(p, api.Exp{}) {
			t.Errorf("Put of the variable %d of %d: %v, %d", vars, vars, p, e)
		}
		l := slices.Repeat([]api.Exp{whole(5)}, vars)
		if p, e := calc.Put(x(vars), l, 0); e != api.ErrArg || !same(p, api.Exp{}) {
			t.Errorf("Put into the variable %d of %d: %v, %d", vars, vars, p, e)
		}
		if p, e := calc.Put(let(whole(1), x(vars)), l, 3); e != api.OK || !same(p, let(whole(1), x(3))) {
			t.Errorf("Put with %d expressions: %v, %d", vars, p, e)
		}
	}
	if p, e := calc.Put(whole(1), slices.Repeat([]api.Exp{whole(5)}, 41), 0); e != api.ErrArg || !same(p, api.Exp{}) {
		t.Errorf("Put of 41 expressions: %v, %d", p, e)
	}
	if l, e := calc.Uses(tup(x(39), x(0), x(39)), 40); e != api.OK || !slices.Equal(l, []int{0, 39}) {
		t.Errorf("%v, %d", l, e)
	}
}

func TestTooGreat(t *testing.T) { // P5.6: ErrRange
	for i, s := range []struct {
		e api.Exp
		l []api.Exp
	}{
		{add(x(0), x(0)), []api.Exp{sized(29)}}, {add(x(0), x(0)), []api.Exp{sized(30)}}, {add(x(0), x(1)), []api.Exp{sized(29), sized(30)}}, {add(x(0), x(1)), []api.Exp{sized(30), sized(30)}}, {x(0), []api.Exp{sized(60)}}, {size(x(0)), []api.Exp{sized(60)}}, {whole(1), []api.Exp{sized(60)}},
		{tup(tup(x(0))), []api.Exp{deep(17)}}, {tup(tup(x(0))), []api.Exp{deep(19)}}, {tup(x(0)), []api.Exp{deep(19)}}, {let(x(0), deep(19)), []api.Exp{deep(19)}}, {tup(slices.Repeat([]api.Exp{x(0)}, 8)...), []api.Exp{sized(7)}}, {tup(slices.Repeat([]api.Exp{x(0)}, 8)...), []api.Exp{sized(8)}},
	} {
		n, d := 0, 0
		var count func(e api.Exp, deep int)
		count = func(e api.Exp, deep int) {
			if e.Op == api.ExpVar {
				n, d = n+nodes(s.l[e.N]), max(d, deep+depth(s.l[e.N]))
				return
			}
			n, d = n+1, max(d, deep+1)
			for _, part := range e.L {
				count(part, deep+1)
			}
		}
		count(s.e, 0)
		p, e := calc.Put(s.e, s.l, 0)
		if small := n <= 60 && d <= 20; small != (e == api.OK) || !small && e != api.ErrRange || small && (nodes(p) != n || depth(p) != d) || !small && !same(p, api.Exp{}) {
			t.Errorf("%d, of %d nodes, %d deep: %v, %d", i, n, d, p, e)
		}
	}
}

func TestBadOperations(t *testing.T) { // P5.4
	for _, op := range []int{-1, api.Ops, 1 << 62, -1 << 63} {
		if v, e := calc.Bin(op, num(1), num(1)); e != api.ErrArg || !same(v, api.Value{}) {
			t.Errorf("operation %d: %v, %d", op, v, e)
		}
	}
	some := []api.Value{num(1), text("a"), tuple(), tuple(num(1)), tag(0, num(1))}
	for op := range api.Ops {
		for i, bad := range badValues() {
			for _, v := range []struct{ a, b api.Value }{{bad, num(1)}, {num(1), bad}, {bad, text("a")}, {text("a"), bad}} {
				if made, e := calc.Bin(op, v.a, v.b); e != api.ErrArg || !same(made, api.Value{}) {
					t.Errorf("operation %d of the bad value %d: %v, %d", op, i, made, e)
				}
			}
		}
		for i, a := range some {
			for k, b := range some {
				want := api.OK
				if i+k > 0 && op != api.OpLess && op != api.OpSame {
					want = api.ErrType
				}
				if v, e := calc.Bin(op, a, b); e != want || e != api.OK && !same(v, api.Value{}) {
					t.Errorf("operation %d of %v and %v: %v, %d", op, a, b, v, e)
				}
			}
		}
	}
}
