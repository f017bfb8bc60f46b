package calc_test

import (
	"math"
	"slices"
	"strings"
	"testing"

	"deltaworks/api"
	"deltaworks/calc"
)

func TestExamples(t *testing.T) { // the chapter's table, and of the operations what it says of each
	abc, long := letters("abc"), strings.Repeat("0123456789", 10)
	sum := sums(words(), texts())
	types := []api.Type{words(), words(), tuples(words(), texts()), sum, texts()}
	values := []api.Value{num(3), num(5), tuple(num(7), text("t")), tag(1, text("abc")), text(long)}
	for i, s := range []struct {
		e    api.Exp
		t    api.Type
		want api.Value
	}{
		{ifs(bin(api.OpLess, x(0), x(1)), x(1), x(0)), words(), num(5)}, {ifs(whole(-1), x(1), x(0)), words(), num(5)}, {ifs(whole(0), x(1), x(0)), words(), num(3)},
		{x(0), words(), num(3)}, {x(4), texts(), text(long)}, {whole(-9), words(), num(-9)}, {letters("q\""), texts(), text("q\"")}, {tup(), tuples(), tuple()}, {tup(x(1), abc, x(3)), tuples(words(), texts(), sum), tuple(num(5), text("abc"), values[3])},
		{get(0, x(2)), words(), num(7)}, {get(1, x(2)), texts(), text("t")}, {get(7, tup(slices.Concat(slices.Repeat([]api.Exp{abc}, 7), []api.Exp{x(0)})...)), words(), num(3)},
		{tagged(1, abc, words(), texts()), sum, values[3]}, {tagged(0, x(0), words(), texts()), sum, tag(0, num(3))}, {tagged(1, x(0), words(), words(), texts()), sums(words(), words(), texts()), tag(1, num(3))},
		{cases(x(3), x(5), size(x(5))), words(), num(3)}, {cases(tagged(0, x(0), words(), texts()), add(x(5), x(5)), size(x(5))), words(), num(6)}, {cases(tagged(2, x(0), words(), words(), words()), x(0), x(1), add(x(5), x(1))), words(), num(8)}, {cases(tagged(0, abc, texts()), x(5)), texts(), text("abc")},
		{let(add(x(0), x(1)), bin(api.OpMul, x(5), x(5))), words(), num(64)}, {let(let(x(0), add(x(5), x(5))), let(x(1), bin(api.OpSub, x(5), x(6)))), words(), num(1)}, {let(x(2), get(0, x(5))), words(), num(7)}, {tup(let(x(0), x(5)), let(x(1), x(5))), tuples(words(), words()), tuple(num(3), num(5))},
		{size(letters("")), words(), num(0)}, {size(x(4)), words(), num(100)}, {join(abc, letters("de")), texts(), text("abcde")}, {join(x(4), abc), texts(), text(long)}, {join(abc, x(4)), texts(), text("abc" + long[:97])}, {join(letters(""), letters("")), texts(), text("")},
		{cut(letters("abcdef"), whole(-3), whole(2)), texts(), text("ab")}, {cut(abc, whole(2), whole(99)), texts(), text("c")}, {cut(abc, whole(2), whole(1)), texts(), text("")}, {cut(abc, whole(0), whole(3)), texts(), text("abc")}, {cut(abc, whole(3), whole(4)), texts(), text("")}, {cut(abc, whole(7), whole(9)), texts(), text("")}, {cut(abc, whole(-9), whole(-7)), texts(), text("")}, {cut(abc, whole(1), whole(1)), texts(), text("")}, {cut(abc, whole(api.WordLow), whole(api.WordHigh)), texts(), text("abc")}, {cut(abc, whole(api.WordHigh), whole(api.WordLow)), texts(), text("")}, {cut(letters(""), whole(0), whole(1)), texts(), text("")}, {cut(abc, whole(1), whole(2)), texts(), text("b")},
		{bin(api.OpSame, x(2), tup(whole(7), letters("t"))), words(), num(1)}, {bin(api.OpSame, x(3), tagged(1, letters("ab"), words(), texts())), words(), num(0)}, {bin(api.OpLess, x(3), tagged(0, whole(7), words(), texts())), words(), num(0)}, {bin(api.OpLess, tagged(0, whole(7), words(), texts()), x(3)), words(), num(1)}, {bin(api.OpLess, abc, abc), words(), num(0)}, {bin(api.OpLess, tup(), tup()), words(), num(0)},
		{call(0, x(0), x(1)), words(), num(-2)}, {call(0, x(1), x(0)), words(), num(2)}, {call(1, x(4)), tuples(texts(), words()), tuple(text(long), num(-2))}, {call(2), texts(), text("2")},
	} {
		funs := []api.Fun{fun(bin(api.OpSub, x(0), x(1)), words(), words()), fun(let(call(0, whole(1), whole(3)), tup(x(0), x(1))), texts()), fun(letters("2"))}
		if u, e := calc.TypeOf(funs, types, s.e); e != api.OK || !same(u, s.t) {
			t.Errorf("TypeOf %d: %v, %d", i, u, e)
		}
		if v, e := calc.Eval(funs, types, values, s.e); e != api.OK || !same(v, s.want) {
			t.Errorf("Eval %d: %v, %d", i, v, e)
		}
	}
}

// narrow returns a type of so many types, one within the other; broad one of so many in all, of which at most 3 are one within the other.
func narrow(deep int) api.Type {
	t := tuples()
	for range deep - 1 {
		t = tuples(t)
	}
	return t
}

func broad(n int) api.Type {
	var l []api.Type
	for n--; n > 0; n -= 9 {
		l = append(l, tuples(manyOf(words(), min(n, 9)-1)...))
	}
	return tuples(l...)
}

func TestTypes(t *testing.T) { // P5.2, P5.3: what is needed, and that each node's type is valid
	pair, sum := tuples(words(), texts()), sums(words(), texts())
	types := []api.Type{words(), texts(), pair, sum, narrow(5), broad(39), broad(36), sums(tuples(words()), words())}
	w, s, p, u, wide := x(0), x(1), x(2), x(3), x(6)
	good := []api.Exp{tup(x(4)), get(0, tup(x(5))), tup(wide), tup(wide, w), tup(wide, w, s), tup(wide, p), tup(wide, w, w, w), tagged(0, x(4), types[4], words()), tagged(1, w, types[6], words(), words(), words()), tagged(0, w, words(), types[6]), tagged(2, w, types[6], words(), words()), cases(x(7), get(0, x(8)), x(8)), ifs(w, p, p), bin(api.OpSame, p, p), bin(api.OpLess, u, u), tup(x(5))}
	bad := []api.Exp{
		get(0, w), get(0, s), get(2, p), get(0, u), get(0, tup()), tagged(0, s, words(), texts()), tagged(1, w, words(), texts()), tagged(0, p, tuples(words()), words()), tagged(0, p, tuples(words(), words())), tagged(0, p, tuples(words(), texts(), words())), tagged(0, p, sums(words(), texts())),
		cases(w, w), cases(s, w), cases(p, w, w), cases(u, w), cases(u, w, w, w), cases(u, w, s), cases(u, x(8), x(8)), cases(u, s, w), cases(x(7), w, s), cases(u, size(x(8)), w), let(w, size(x(8))), let(size(w), w), ifs(s, w, w), ifs(p, w, w), ifs(w, w, s), ifs(w, s, w), ifs(w, p, tup(w)), ifs(w, p, tup(w, w)), ifs(w, p, tup(s, w)),
		bin(api.OpSame, w, s), bin(api.OpLess, s, w), bin(api.OpSame, p, tup(w)), bin(api.OpLess, u, p), size(w), size(p), join(w, s), join(s, w), cut(w, w, w), cut(s, s, w), cut(s, w, s), call(0, s), call(1, w, w), call(1, s, s), call(2, s), call(2, tup(w, w)), call(2, tup(w, s, s)), call(2, u),
		tup(tup(x(4))), tup(x(5), x(5)), tup(wide, w, w, w, w), tup(wide, p, w), tup(x(5), w), size(get(1, tup(tup(tup(x(4))), s))), get(1, tup(wide, w, w, w, w)), tagged(1, w, types[6], words(), words(), words(), words()), tagged(1, w, narrow(6), words()), tagged(0, w, words(), tuples(narrow(5))), let(tup(wide, wide), w), bin(api.OpSame, tup(wide, wide), tup(wide, wide)), ifs(w, w, get(0, tup(w, tup(wide, wide)))),
	}
	for op := range api.OpLess {
		good = append(good, bin(op, w, w))
		bad = append(bad, bin(op, s, s), bin(op, p, p), bin(op, w, s), bin(op, s, w))
	}
	values := make([]api.Value, len(types))
	for i, one := range types {
		values[i] = least(one)
	}
	funs := []api.Fun{fun(x(0), words()), fun(x(0), words(), texts()), fun(get(1, x(0)), pair)}
	for i, e := range append(good, call(0, w), call(1, w, s), call(2, p)) {
		if _, f := calc.TypeOf(funs, types, e); f != api.OK {
			t.Errorf("the good expression %d: %d", i, f)
		}
		if _, f := calc.Eval(funs, types, values, e); f != api.OK {
			t.Errorf("the good expression %d: %d", i, f)
		}
	}
	for i, e := range bad {
		for _, e := range []api.Exp{e, tup(e), let(e, w), ifs(w, w, let(e, w)), cases(let(e, u), w, w), call(0, let(e, w))} {
			if made, f := calc.TypeOf(funs, types, e); f != api.ErrType || !same(made, api.Type{}) {
				t.Errorf("the bad expression %d: %v, %d", i, made, f)
			}
			if v, f := calc.Eval(funs, types, values[1:], e); f != api.ErrType || !same(v, api.Value{}) {
				t.Errorf("the bad expression %d: %v, %d", i, v, f)
			}
			if l, f := calc.Results(append(slices.Clone(funs), fun(e, types...))); f != api.ErrType || len(l) > 0 {
				t.Errorf("the bad expression %d: %v, %d", i, l, f)
			}
		}
	}
}

// least returns a value of a type.
func least(t api.Type) api.Value {
	switch t.Kind {
	case api.TypeText:
		return text("")
	case api.TypeTuple:
		var l []api.Value
		for _, part := range t.L {
			l = append(l, least(part))
		}
		return tuple(l...)
	case api.TypeSum:
		return tag(0, least(t.L[0]))
	}
	return num(0)
}

// kept returns what 32 bits keep of a number.
func kept(n int) int {
	n &= 1<<32 - 1
	if n > api.WordHigh {
		n -= 1 << 32
	}
	return n
}

// whether returns 1 for what is so.
func whether(is bool) int {
	if is {
		return 1
	}
	return 0
}

// bits returns the word of which each bit is as it should be, by those of both words.
func bits(a, b int, is func(a, b bool) bool) int {
	n := 0
	for i := range 32 {
		if is(a>>i&1 == 1, b>>i&1 == 1) {
			n |= 1 << i
		}
	}
	return kept(n)
}

// made returns what the chapter says that an operation makes of two words.
func made(op, a, b int) int {
	down := 0
	if b != 0 {
		down = int(math.Floor(float64(a) / float64(b)))
	}
	switch op {
	case api.OpAdd:
		return kept(a + b)
	case api.OpSub:
		return kept(a - b)
	case api.OpMul:
		return kept(a * b)
	case api.OpDiv:
		return kept(down)
	case api.OpMod:
		return whether(b != 0) * kept(a-b*down)
	case api.OpMin:
		return slices.Min([]int{a, b})
	case api.OpMax:
		return slices.Max([]int{a, b})
	case api.OpAnd:
		return bits(a, b, func(a, b bool) bool { return a && b })
	case api.OpOr:
		return bits(a, b, func(a, b bool) bool { return a || b })
	case api.OpXor:
		return bits(a, b, func(a, b bool) bool { return a != b })
	case api.OpLess:
		return whether(a < b)
	}
	return whether(a == b)
}

func TestWords(t *testing.T) { // P5.4, and ExpBin of Eval
	r := someRand()
	l := []int{api.WordLow, api.WordLow + 1, -65536, -256, -8, -7, -3, -2, -1, 0, 1, 2, 3, 6, 7, 255, 65535, 65536, api.WordHigh - 1, api.WordHigh}
	for range 60 {
		l = append(l, int(int32(r.Uint32())), r.IntN(40)-20)
	}
	for op := range api.Ops {
		for _, a := range l {
			for _, b := range l {
				want := num(made(op, a, b))
				if v, e := calc.Bin(op, num(a), num(b)); e != api.OK || !same(v, want) {
					t.Fatalf("operation %d of %d and %d: %v, %d", op, a, b, v, e)
				}
				if v, e := calc.Eval(nil, []api.Type{words()}, []api.Value{num(b)}, bin(op, whole(a), x(0))); e != api.OK || !same(v, want) {
					t.Fatalf("ExpBin %d of %d and %d: %v, %d", op, a, b, v, e)
				}
			}
		}
	}
}

func TestOrder(t *testing.T) { // P5.4: each one of these is ahead of those behind it
	l := []api.Value{num(api.WordLow), num(-1), num(9), num(10), text(""), text("10"), text("9"), text("a"), text("aa"), text("b"), tuple(), tuple(num(1)), tuple(num(1), num(-5)), tuple(num(2)), tuple(text("")), tuple(tuple()), tag(0, num(9)), tag(0, text("")), tag(1, num(0)), tag(7, tag(0, num(0)))}
	for i, a := range l {
		for k, b := range l {
			if v, e := calc.Bin(api.OpLess, a, b); e != api.OK || !same(v, num(whether(i < k))) {
				t.Errorf("%v ahead of %v: %v, %d", a, b, v, e)
			}
			if v, e := calc.Bin(api.OpSame, a, copied(b)); e != api.OK || !same(v, num(whether(i == k))) {
				t.Errorf("%v the same as %v: %v, %d", a, b, v, e)
			}
		}
	}
}

func TestUses(t *testing.T) { // P5.5
	for i, s := range []struct {
		e    api.Exp
		vars int
		want []int
	}{
		{let(x(2), add(x(3), x(0))), 3, []int{0, 2}}, {let(x(2), add(x(3), x(0))), 4, []int{0, 2, 3}}, {whole(1), 40, nil}, {tup(x(5), x(1), x(5), x(3), x(1)), 6, []int{1, 3, 5}}, {let(whole(1), x(0)), 0, nil}, {let(whole(1), x(0)), 1, []int{0}}, {let(whole(1), let(x(1), add(x(2), x(1)))), 1, nil},
		{cases(x(0), x(2), x(1), add(x(2), letters(""))), 2, []int{0, 1}}, {call(19, x(3), call(4, x(1))), 5, []int{1, 3}}, {size(whole(1)), 3, nil}, {get(2, x(1)), 3, []int{1}}, {tagged(1, x(2), words(), words()), 3, []int{2}}, {ifs(whole(0), x(0), x(2)), 3, []int{0, 2}}, {join(x(2), cut(x(3), x(0), x(1))), 9, []int{0, 1, 2, 3}}, {let(x(1), whole(7)), 2, []int{1}},
	} {
		if l, e := calc.Uses(s.e, s.vars); e != api.OK || !slices.Equal(l, s.want) {
			t.Errorf("%d: %v, %d", i, l, e)
		}
	}
}

func TestPut(t *testing.T) { // P5.6
	for i, s := range []struct {
		e    api.Exp
		l    []api.Exp
		vars int
		want api.Exp
	}{
		{let(x(0), add(x(1), x(0))), []api.Exp{get(1, x(2))}, 3, let(get(1, x(2)), add(x(3), get(1, x(2))))},
		{x(0), []api.Exp{x(4)}, 5, x(4)}, {add(x(1), x(0)), []api.Exp{x(0), x(1)}, 2, add(x(1), x(0))}, {add(x(1), x(0)), []api.Exp{x(1), x(0)}, 2, add(x(0), x(1))}, {x(1), []api.Exp{whole(1), letters("a"), tup()}, 0, letters("a")}, {whole(3), nil, 7, whole(3)},
		{let(whole(1), x(2)), []api.Exp{whole(5), whole(6)}, 0, let(whole(1), x(0))}, {let(whole(1), let(whole(2), tup(x(0), x(1), x(2)))), []api.Exp{x(3)}, 4, let(whole(1), let(whole(2), tup(x(3), x(4), x(5))))},
		{x(0), []api.Exp{let(x(1), x(2))}, 2, let(x(1), x(2))}, {let(whole(1), x(0)), []api.Exp{let(x(1), add(x(2), x(1)))}, 2, let(whole(1), let(x(1), add(x(3), x(1))))}, {let(whole(1), let(whole(2), tup(x(0), x(2)))), []api.Exp{cases(x(0), x(1), let(x(1), x(2)))}, 1, let(whole(1), let(whole(2), tup(cases(x(0), x(3), let(x(3), x(4))), x(2))))},
		{cases(x(1), x(2), add(x(2), x(0))), []api.Exp{x(0), x(0)}, 1, cases(x(0), x(1), add(x(1), x(0)))}, {call(19, x(0), call(3)), []api.Exp{call(4, x(0))}, 1, call(19, call(4, x(0)), call(3))}, {tagged(1, x(0), words(), tuples(words())), []api.Exp{tagged(0, x(0), sums(texts()))}, 1, tagged(1, tagged(0, x(0), sums(texts())), words(), tuples(words()))},
		{tup(let(x(0), x(1)), x(0), let(x(0), x(0))), []api.Exp{let(x(0), x(1))}, 1, tup(let(let(x(0), x(1)), x(1)), let(x(0), x(1)), let(let(x(0), x(1)), let(x(0), x(2))))}, {size(cut(x(0), x(1), whole(-2))), []api.Exp{whole(7), bin(api.OpXor, x(0), x(1))}, 2, size(cut(whole(7), bin(api.OpXor, x(0), x(1)), whole(-2)))},
	} {
		if p, e := calc.Put(s.e, s.l, s.vars); e != api.OK || !same(p, s.want) {
			t.Errorf("%d: %v, %d", i, p, e)
		}
	}
}
