package zset_test

import (
	"slices"
	"testing"

	"deltaworks/api"
	"deltaworks/zset"
)

// bad is a collection with its error.
type bad struct {
	z api.Zset
	e api.Errno
}

// bads lists collections that are not valid, or too long.
func bads() []bad {
	l := []bad{
		{api.Zset{it(2, 1), it(1, 1)}, api.ErrArg}, {api.Zset{it(1, 1), it(1, 1)}, api.ErrArg}, {api.Zset{it(1, 1), it(1, -1)}, api.ErrArg},
		{api.Zset{it(1, 0)}, api.ErrArg}, {api.Zset{it(1, 1), it(2, 0), it(3, 1)}, api.ErrArg}, {api.Zset{of(text(""), 1), it(1, 1)}, api.ErrArg},
		{api.Zset{of(tuple(), 1), of(text("z"), 1)}, api.ErrArg}, {api.Zset{of(text("b"), 1), of(text("aa"), 1)}, api.ErrArg}, {api.Zset{of(tag(1, num(0)), 1), of(tag(0, num(9)), 1)}, api.ErrArg},
		{api.Zset{of(tuple(num(1), num(0)), 1), of(tuple(num(1)), 1)}, api.ErrArg}, {api.Zset{of(tuple(), 1), of(api.Value{Kind: api.ValueTuple, L: []api.Value{}}, 1)}, api.ErrArg},
		{append(many(0, 19999), it(0, 1)), api.ErrArg}, {many(0, 20001), api.ErrLong}, {make(api.Zset, 20001), api.ErrLong}, {make(api.Zset, 1<<20), api.ErrLong},
	}
	for _, row := range badRows() {
		l = append(l, bad{api.Zset{of(row, 1)}, api.ErrArg}, bad{api.Zset{it(1, 1), of(row, 1)}, api.ErrArg})
	}
	return l
}

// outcome is what a call returned.
type outcome struct {
	zs []api.Zset
	n  int
	e  api.Errno
}

func one(z api.Zset, e api.Errno) outcome { return outcome{zs: []api.Zset{z}, e: e} }

func number(n int, e api.Errno) outcome { return outcome{n: n, e: e} }

// ofOne lists all functions of one collection; what else they are given is valid.
func ofOne() map[string]func(api.Zset) outcome {
	return map[string]func(api.Zset) outcome{
		"Check": func(z api.Zset) outcome { return outcome{e: zset.Check(z)} },
		"Typed": func(z api.Zset) outcome { return outcome{e: zset.Typed(z, api.Type{})} },
		"Count": func(z api.Zset) outcome { return number(zset.Count(z, num(1))) },
		"Total": func(z api.Zset) outcome { return number(zset.Total(z)) },
		"Sum":   func(z api.Zset) outcome { return one(zset.Sum([]api.Zset{z})) },
		"Neg":   func(z api.Zset) outcome { return one(zset.Neg(z)) },
		"Scale": func(z api.Zset) outcome { return one(zset.Scale(z, 3)) },
		"Once":  func(z api.Zset) outcome { return one(zset.Once(z)) },
		"Range": func(z api.Zset) outcome { return one(zset.Range(z, num(0), tuple())) },
		"Split": func(z api.Zset) outcome {
			more, less, e := zset.Split(z)
			return outcome{zs: []api.Zset{more, less}, e: e}
		},
		"Typed, no type":    func(z api.Zset) outcome { return outcome{e: zset.Typed(z, api.Type{Kind: 9})} },
		"Count, no row":     func(z api.Zset) outcome { return number(zset.Count(z, num(1<<40))) },
		"Range, no low one": func(z api.Zset) outcome { return one(zset.Range(z, num(1<<40), num(1<<40))) },
	}
}

// ofTwo lists all functions of two collections.
func ofTwo() map[string]func(a, b api.Zset) outcome {
	return map[string]func(a, b api.Zset) outcome{
		"Add":   func(a, b api.Zset) outcome { return one(zset.Add(a, b)) },
		"Sum":   func(a, b api.Zset) outcome { return one(zset.Sum([]api.Zset{a, b})) },
		"Flips": func(a, b api.Zset) outcome { return one(zset.Flips(a, b)) },
		"Pair":  func(a, b api.Zset) outcome { return one(zset.Pair(a, b)) },
		"Apart": func(a, b api.Zset) outcome { return number(zset.Apart(a, b)) },
	}
}

// isError reports whether a call returned just an error.
func (o outcome) isError(e api.Errno) bool {
	return o.e == e && o.n == 0 && !slices.ContainsFunc(o.zs, func(z api.Zset) bool { return len(z) > 0 })
}

func TestBadCollections(t *testing.T) { // P2.1 to P2.10, R1, R2
	for i, x := range bads() {
		for name, call := range ofOne() {
			if o := call(x.z); !o.isError(x.e) {
				t.Errorf("%s of the bad collection %d: %d, %d", name, i, o.n, o.e)
			}
		}
		for name, call := range ofTwo() {
			for k, z := range []api.Zset{nil, first, many(0, 20000)} {
				if o := call(x.z, z); !o.isError(x.e) {
					t.Errorf("%s of the bad collection %d and the good one %d: %d, %d", name, i, k, o.n, o.e)
				}
				if o := call(z, x.z); !o.isError(x.e) {
					t.Errorf("%s of the good collection %d and the bad one %d: %d, %d", name, k, i, o.n, o.e)
				}
			}
		}
	}
}

func TestFirstErrorDecides(t *testing.T) { // R1
	wrong, long := api.Zset{it(1, 0)}, make(api.Zset, 20001)
	for name, call := range ofTwo() {
		if o := call(wrong, long); !o.isError(api.ErrArg) {
			t.Errorf("%s of a wrong and a long one: %d", name, o.e)
		}
		if o := call(long, wrong); !o.isError(api.ErrLong) {
			t.Errorf("%s of a long and a wrong one: %d", name, o.e)
		}
	}
	if z, e := zset.Sum([]api.Zset{many(0, 20000), many(-1, 1), first, long, wrong}); len(z) > 0 || e != api.ErrLong {
		t.Errorf("Sum of too many rows, with errors behind: %d", e)
	}
	if z, e := zset.Sum([]api.Zset{first, wrong, long}); len(z) > 0 || e != api.ErrArg {
		t.Errorf("Sum with two errors: %d", e)
	}
	if e := zset.Typed(first, api.Type{Kind: api.TypeSum}); e != api.ErrArg {
		t.Errorf("Typed, of no type, and not of it: %d", e)
	}
	if z, e := zset.Make(append(many(0, 20001), of(num(1<<40), 1))); len(z) > 0 || e != api.ErrArg {
		t.Errorf("Make of too many rows, and one that is not valid: %d", e)
	}
}

func TestCheck(t *testing.T) { // P2.1
	greatest := api.Zset{it(0, lowest), it(1, highest), of(text("~"), -1), of(sized(60), 1), of(tower(6), 1)}
	var all api.Zset
	for _, row := range rows() {
		all = append(all, of(row, 1))
	}
	for i, z := range []api.Zset{nil, {}, first, second, many(0, 20000), many(-5, 10), greatest, all} {
		if e := zset.Check(z); e != api.OK {
			t.Errorf("Check of %d: %d", i, e)
		}
	}
}

func TestMake(t *testing.T) { // P2.2
	for i, x := range []struct {
		l []api.Item
		z api.Zset
	}{
		{[]api.Item{it(5, 1), it(1, 2), it(2, -1), it(5, 3), it(5, -3)}, first},
		{nil, nil}, {[]api.Item{}, nil}, {[]api.Item{it(1, 0)}, nil}, {[]api.Item{it(2, 3), it(1, 0), it(2, -3)}, nil}, {[]api.Item{it(1, 1), it(1, -1), it(1, 7)}, api.Zset{it(1, 7)}},
		{[]api.Item{of(tuple(), 1), of(text("b"), 1), it(9, 1), of(text("a"), 1), it(-9, 1)}, api.Zset{it(-9, 1), it(9, 1), of(text("a"), 1), of(text("b"), 1), of(tuple(), 1)}},
		{[]api.Item{of(tuple(), 1), of(api.Value{Kind: api.ValueTuple, L: []api.Value{}}, 1)}, api.Zset{of(tuple(), 2)}},
		{[]api.Item{it(1, 1<<62), it(1, 1<<62)}, api.Zset{it(1, lowest)}}, {[]api.Item{it(1, lowest), it(1, lowest)}, nil}, {[]api.Item{it(1, highest), it(1, 2)}, api.Zset{it(1, lowest+1)}},
	} {
		if z, e := zset.Make(x.l); !same(z, x.z) || e != api.OK {
			t.Errorf("%d: %v, %d", i, z, e)
		}
	}
	for i, row := range badRows() {
		for _, l := range [][]api.Item{{of(row, 1)}, {of(row, 0)}, {it(1, 1), of(row, 1), of(row, -1)}, append(many(0, 20001), of(row, 1))} {
			if z, e := zset.Make(l); len(z) > 0 || e != api.ErrArg {
				t.Errorf("the bad row %d: %v, %d", i, z, e)
			}
		}
	}
}

func TestMakeOfManyRows(t *testing.T) { // P2.2
	more := append(many(0, 20000), it(-1, 1))
	if z, e := zset.Make(more); len(z) > 0 || e != api.ErrFull {
		t.Errorf("20001 rows: %d, %d", len(z), e)
	}
	if z, e := zset.Make(append(more, it(-1, -1))); !same(z, many(0, 20000)) || e != api.OK {
		t.Errorf("20000 rows, and one that comes to nothing: %d, %d", len(z), e)
	}
	if z, e := zset.Make(append(more, it(20000, -1), it(700, -1), it(701, 0))); len(z) > 0 || e != api.ErrFull {
		t.Errorf("20001 rows again: %d, %d", len(z), e)
	}
	all := many(0, 50000)
	for i := range 50000 {
		all = append(all, it(49999-i, -1))
	}
	slices.Reverse(all)
	if z, e := zset.Make(append(all, first...)); !same(z, first) || e != api.OK {
		t.Errorf("50000 rows that come to nothing: %d, %d", len(z), e)
	}
}

func TestTyped(t *testing.T) { // P2.3
	whole, letters, none := api.Type{}, api.Type{Kind: api.TypeText}, api.Type{Kind: api.TypeTuple}
	sum := api.Type{Kind: api.TypeSum, L: []api.Type{whole, none}}
	for i, x := range []struct {
		z api.Zset
		t api.Type
		e api.Errno
	}{
		{first, whole, api.OK}, {first, letters, api.ErrType}, {first, none, api.ErrType}, {first, sum, api.ErrType},
		{nil, whole, api.OK}, {nil, letters, api.OK}, {nil, api.Type{Kind: 9}, api.ErrArg}, {nil, api.Type{Kind: api.TypeSum}, api.ErrArg}, {first, api.Type{Kind: -1}, api.ErrArg},
		{api.Zset{it(1, 1), of(text("a"), 1)}, whole, api.ErrType}, {api.Zset{it(1, 1), of(text("a"), 1)}, letters, api.ErrType}, {api.Zset{it(1, 1), of(text("a"), -1)}, whole, api.ErrType},
		{api.Zset{of(tag(0, num(1)), 1), of(tag(1, tuple()), 1)}, sum, api.OK}, {api.Zset{of(tag(0, num(1)), 1), of(tag(1, num(1)), 1)}, sum, api.ErrType}, {api.Zset{of(tag(2, num(1)), 1)}, sum, api.ErrType},
		{many(0, 20000), whole, api.OK}, {append(many(0, 19999), of(tuple(), 1)), whole, api.ErrType},
	} {
		if e := zset.Typed(x.z, x.t); e != x.e {
			t.Errorf("%d: %d", i, e)
		}
	}
}

func TestCount(t *testing.T) { // P2.4
	z := api.Zset{it(-4, 3), it(1, lowest), it(2, highest), of(text("a"), -6), of(tuple(num(1)), 7)}
	for i, x := range []struct {
		z   api.Zset
		row api.Value
		n   int
	}{
		{first, num(1), 2}, {first, num(2), -1}, {first, num(5), 1}, {first, num(9), 0}, {first, num(0), 0}, {first, num(3), 0}, {first, text("1"), 0}, {nil, num(1), 0}, {nil, tuple(), 0},
		{z, num(-4), 3}, {z, num(1), lowest}, {z, num(2), highest}, {z, text("a"), -6}, {z, tuple(num(1)), 7}, {z, tuple(), 0}, {z, tuple(num(1), num(1)), 0}, {z, tag(0, num(1)), 0}, {z, text(""), 0}, {z, text("b"), 0},
	} {
		if n, e := zset.Count(x.z, x.row); n != x.n || e != api.OK {
			t.Errorf("%d: %d, %d", i, n, e)
		}
	}
	for i, row := range badRows() {
		for _, z := range []api.Zset{nil, first} {
			if n, e := zset.Count(z, row); n != 0 || e != api.ErrArg {
				t.Errorf("the bad row %d: %d, %d", i, n, e)
			}
		}
	}
}

func TestTotal(t *testing.T) { // P2.4
	for i, x := range []struct {
		z api.Zset
		n int
	}{{first, 2}, {second, 2}, {nil, 0}, {many(0, 20000), 20000}, {api.Zset{it(1, 5), it(2, -5)}, 0}, {api.Zset{it(1, highest), it(2, 1)}, lowest}, {api.Zset{it(1, lowest), it(2, lowest), it(3, -3)}, -3}} {
		if n, e := zset.Total(x.z); n != x.n || e != api.OK {
			t.Errorf("%d: %d, %d", i, n, e)
		}
	}
}
