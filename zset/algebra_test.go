package zset_test

import (
	"testing"

	"deltaworks/api"
	"deltaworks/zset"
)

func TestAddAndFlips(t *testing.T) { // P2.5, P2.8, P2.10
	for i, x := range []struct {
		a, b, sum, flips api.Zset
		apart            int
	}{
		{first, second, api.Zset{it(2, 2), it(5, 1), it(7, 1)}, api.Zset{it(1, -1), it(2, 1), it(7, 1)}, 4},
		{second, first, api.Zset{it(2, 2), it(5, 1), it(7, 1)}, api.Zset{it(5, 1)}, 4},
		{first, nil, first, nil, 3}, {nil, first, first, api.Zset{it(1, 1), it(5, 1)}, 3}, {nil, nil, nil, nil, 0}, {api.Zset{}, nil, nil, nil, 0},
		{first, first, api.Zset{it(1, 4), it(2, -2), it(5, 2)}, nil, 0},
		{api.Zset{it(1, 1), it(3, -2)}, api.Zset{it(1, -1), it(3, 2)}, nil, api.Zset{it(1, -1)}, 2},
		{api.Zset{it(1, -1)}, api.Zset{it(1, 1)}, nil, nil, 1}, {api.Zset{it(1, -1)}, api.Zset{it(1, 2)}, api.Zset{it(1, 1)}, api.Zset{it(1, 1)}, 1},
		{api.Zset{it(1, 5)}, api.Zset{it(1, -9)}, api.Zset{it(1, -4)}, api.Zset{it(1, -1)}, 1}, {api.Zset{it(1, 5)}, api.Zset{it(1, -4)}, api.Zset{it(1, 1)}, nil, 1},
		{api.Zset{it(1, highest)}, api.Zset{it(1, 1)}, api.Zset{it(1, lowest)}, api.Zset{it(1, -1)}, 1},
		{api.Zset{it(1, lowest)}, api.Zset{it(1, lowest)}, nil, nil, 0}, {api.Zset{it(1, lowest)}, api.Zset{it(1, -1)}, api.Zset{it(1, highest)}, api.Zset{it(1, 1)}, 1},
		{api.Zset{of(text("a"), 1), of(tuple(), 1)}, api.Zset{it(1, 1), of(text("b"), 1), of(tuple(), 1)}, api.Zset{it(1, 1), of(text("a"), 1), of(text("b"), 1), of(tuple(), 2)}, api.Zset{it(1, 1), of(text("b"), 1)}, 3},
	} {
		z, e := zset.Add(x.a, x.b)
		y, f := zset.Flips(x.a, x.b)
		n, g := zset.Apart(x.a, x.b)
		s, h := zset.Sum([]api.Zset{x.a, x.b})
		if !same(z, x.sum) || !same(y, x.flips) || n != x.apart || !same(s, x.sum) || e != api.OK || f != api.OK || g != api.OK || h != api.OK {
			t.Errorf("%d: %v, %d; %v, %d; %d, %d; %v, %d", i, z, e, y, f, n, g, s, h)
		}
	}
}

func TestSum(t *testing.T) { // P2.5
	for i, x := range []struct {
		l []api.Zset
		z api.Zset
	}{
		{nil, nil}, {[]api.Zset{}, nil}, {[]api.Zset{nil, {}}, nil}, {[]api.Zset{first}, first}, {[]api.Zset{nil, first, nil}, first},
		{[]api.Zset{first, first, first}, api.Zset{it(1, 6), it(2, -3), it(5, 3)}}, {[]api.Zset{first, second, {it(2, -2), it(8, 1)}}, api.Zset{it(5, 1), it(7, 1), it(8, 1)}},
		{[]api.Zset{{it(9, 1)}, {it(1, 1)}, {it(9, -1)}, {it(5, 1)}, {it(9, 4)}}, api.Zset{it(1, 1), it(5, 1), it(9, 4)}},
		{[]api.Zset{{it(1, 1<<62)}, {it(1, 1<<62)}, {it(1, lowest)}}, nil},
	} {
		if z, e := zset.Sum(x.l); !same(z, x.z) || e != api.OK {
			t.Errorf("%d: %v, %d", i, z, e)
		}
	}
}

func TestTheMost(t *testing.T) { // P2.5, P2.8, P2.10
	big, minus := many(0, 20000), api.Zset{it(-1, -1)}
	for i, x := range []struct {
		a, b api.Zset
		n    int
		e    api.Errno
	}{
		{big, minus, 0, api.ErrFull}, {minus, big, 0, api.ErrFull}, {big, many(20000, 1), 0, api.ErrFull}, {big, many(20000, 20000), 0, api.ErrFull}, {big, many(1, 20000), 0, api.ErrFull},
		{big, big, 20000, api.OK}, {big, nil, 20000, api.OK}, {nil, big, 20000, api.OK}, {many(0, 10000), many(10000, 10000), 20000, api.OK}, {many(0, 10001), many(10000, 10001), 0, api.ErrFull},
		{big, api.Zset{it(-1, 1), it(3, -1)}, 20000, api.OK}, {big, api.Zset{it(19999, -1), it(20000, 1)}, 20000, api.OK}, {big, api.Zset{it(-1, 1), it(3, -2)}, 0, api.ErrFull},
	} {
		z, e := zset.Add(x.a, x.b)
		s, f := zset.Sum([]api.Zset{x.a, x.b})
		y, g := zset.Flips(x.a, x.b)
		if len(z) != x.n || len(s) != x.n || e != x.e || f != x.e || g != x.e || g != api.OK && len(y) > 0 {
			t.Errorf("%d: %d, %d; %d, %d; %d, %d", i, len(z), e, len(s), f, len(y), g)
		}
	}
	if z, e := zset.Flips(many(0, 10000), many(10000, 10000)); !same(z, many(10000, 10000)) || e != api.OK {
		t.Errorf("Flips of 10000 new ones: %d, %d", len(z), e)
	}
	if n, e := zset.Apart(big, many(20000, 20000)); n != 40000 || e != api.OK {
		t.Errorf("Apart: %d, %d", n, e)
	}
	neg := must(zset.Neg(big))(t)
	between := []api.Zset{big, many(20000, 20000), many(40000, 20000), neg, must(zset.Neg(many(20000, 20000)))(t), {it(5, 1)}}
	if z, e := zset.Sum(between); len(z) > 0 || e != api.ErrFull {
		t.Errorf("Sum of 20001 rows, behind 60000: %d, %d", len(z), e)
	}
	if z, e := zset.Sum(append(between, api.Zset{it(5, -1)})); !same(z, many(40000, 20000)) || e != api.OK {
		t.Errorf("Sum of 20000 rows, behind 60000: %d, %d", len(z), e)
	}
}

func TestOfCounts(t *testing.T) { // P2.6, P2.7
	odd := api.Zset{it(1, lowest), it(2, highest), it(3, 1<<62), of(text("a"), -1), of(tuple(num(1)), 1)}
	for i, x := range []struct{ z, neg, more, less, once api.Zset }{
		{first, api.Zset{it(1, -2), it(2, 1), it(5, -1)}, api.Zset{it(1, 2), it(5, 1)}, api.Zset{it(2, 1)}, api.Zset{it(1, 1), it(5, 1)}},
		{nil, nil, nil, nil, nil}, {api.Zset{it(1, -5)}, api.Zset{it(1, 5)}, nil, api.Zset{it(1, 5)}, nil}, {api.Zset{it(1, 5)}, api.Zset{it(1, -5)}, api.Zset{it(1, 5)}, nil, api.Zset{it(1, 1)}},
		{odd, api.Zset{it(1, lowest), it(2, -highest), it(3, -1<<62), of(text("a"), 1), of(tuple(num(1)), -1)}, api.Zset{it(2, highest), it(3, 1<<62), of(tuple(num(1)), 1)}, api.Zset{it(1, lowest), of(text("a"), 1)}, api.Zset{it(2, 1), it(3, 1), of(tuple(num(1)), 1)}},
	} {
		neg, e := zset.Neg(x.z)
		more, less, f := zset.Split(x.z)
		once, g := zset.Once(x.z)
		if !same(neg, x.neg) || !same(more, x.more) || !same(less, x.less) || !same(once, x.once) || e != api.OK || f != api.OK || g != api.OK {
			t.Errorf("%d: %v, %d; %v, %v, %d; %v, %d", i, neg, e, more, less, f, once, g)
		}
	}
	for i, x := range []struct {
		z    api.Zset
		n    int
		want api.Zset
	}{
		{first, 3, api.Zset{it(1, 6), it(2, -3), it(5, 3)}}, {first, 0, nil}, {first, 1, first}, {first, -1, api.Zset{it(1, -2), it(2, 1), it(5, -1)}}, {nil, 7, nil},
		{first, lowest, api.Zset{it(2, lowest), it(5, lowest)}}, {odd, 4, api.Zset{it(2, -4), of(text("a"), -4), of(tuple(num(1)), 4)}}, {odd, -1, api.Zset{it(1, lowest), it(2, -highest), it(3, -1<<62), of(text("a"), 1), of(tuple(num(1)), -1)}},
	} {
		if z, e := zset.Scale(x.z, x.n); !same(z, x.want) || e != api.OK {
			t.Errorf("Scale %d: %v, %d", i, z, e)
		}
	}
	big := many(0, 20000)
	if more, less, e := zset.Split(big); !same(more, big) || len(less) > 0 || e != api.OK {
		t.Errorf("Split of 20000: %d, %d, %d", len(more), len(less), e)
	}
}

func TestPair(t *testing.T) { // P2.9
	x := text("x")
	for i, c := range []struct {
		a, b, want api.Zset
		e          api.Errno
	}{
		{api.Zset{it(1, 2), it(3, -1)}, api.Zset{of(x, 3)}, api.Zset{of(tuple(num(1), x), 6), of(tuple(num(3), x), -3)}, api.OK},
		{api.Zset{of(x, 3)}, api.Zset{it(1, 2), it(3, -1)}, api.Zset{of(tuple(x, num(1)), 6), of(tuple(x, num(3)), -3)}, api.OK},
		{api.Zset{it(1, 1), it(2, 1)}, api.Zset{it(8, -1), it(9, 1)}, api.Zset{of(tuple(num(1), num(8)), -1), of(tuple(num(1), num(9)), 1), of(tuple(num(2), num(8)), -1), of(tuple(num(2), num(9)), 1)}, api.OK},
		{api.Zset{of(tuple(num(1)), 1), of(tuple(num(1), num(2)), 1)}, api.Zset{of(tuple(), 1)}, api.Zset{of(tuple(tuple(num(1)), tuple()), 1), of(tuple(tuple(num(1), num(2)), tuple()), 1)}, api.OK},
		{first, nil, nil, api.OK}, {nil, first, nil, api.OK}, {nil, nil, nil, api.OK}, {many(0, 20000), nil, nil, api.OK},
		{api.Zset{it(1, 1<<40)}, api.Zset{it(2, 1<<40), it(3, 1)}, api.Zset{of(tuple(num(1), num(3)), 1<<40)}, api.OK}, {api.Zset{it(1, lowest)}, api.Zset{it(1, -1)}, api.Zset{of(tuple(num(1), num(1)), lowest)}, api.OK},
		{api.Zset{of(tower(5), 1)}, api.Zset{it(1, 1)}, api.Zset{of(tuple(tower(5), num(1)), 1)}, api.OK}, {api.Zset{of(tower(6), 1)}, api.Zset{it(1, 1)}, nil, api.ErrFull}, {api.Zset{it(1, 1)}, api.Zset{of(tower(6), 1)}, nil, api.ErrFull},
		{api.Zset{it(1, 1), of(tower(6), 1)}, api.Zset{it(1, 1)}, nil, api.ErrFull}, {api.Zset{of(tower(6), 1<<40)}, api.Zset{it(1, 1<<40)}, nil, api.ErrFull}, {api.Zset{of(tower(6), 1)}, nil, nil, api.OK},
		{api.Zset{of(sized(30), 1)}, api.Zset{of(sized(29), 1)}, api.Zset{of(tuple(sized(30), sized(29)), 1)}, api.OK}, {api.Zset{of(sized(30), 1)}, api.Zset{of(sized(30), 1)}, nil, api.ErrFull},
		{many(0, 201), many(0, 100), nil, api.ErrFull}, {many(0, 20000), many(0, 2), nil, api.ErrFull}, {many(0, 20000), many(0, 20000), nil, api.ErrFull}, {many(0, 3), many(0, 6667), nil, api.ErrFull},
	} {
		if z, e := zset.Pair(c.a, c.b); !same(z, c.want) || e != c.e {
			t.Errorf("%d: %v, %d", i, z, e)
		}
	}
	three, wide := many(0, 3), many(0, 6667)
	three[0].N, wide[0].N = 1<<40, 1<<40
	if z, e := zset.Pair(three, wide); len(z) > 0 || e != api.ErrFull {
		t.Errorf("20001 pairs, of which one is there 0 times: %d, %d", len(z), e)
	}
	for _, n := range []int{1, 100, 200, 20000} {
		z, e := zset.Pair(many(0, n), many(0, 20000/n))
		if len(z) != 20000 || e != api.OK || zset.Check(z) != api.OK {
			t.Errorf("%d rows: %d, %d", n, len(z), e)
		}
	}
}

func TestRange(t *testing.T) { // P2.10
	mixed := api.Zset{it(-3, 1), it(4, -2), of(text(""), 1), of(text("a"), 1), of(text("ab"), 1), of(tuple(), 1), of(tuple(num(0)), 1), of(tag(0, num(0)), 1)}
	for i, x := range []struct {
		z         api.Zset
		low, high api.Value
		want      api.Zset
	}{
		{first, num(2), num(5), first[1:2]}, {first, num(1), num(6), first}, {first, num(1), num(5), first[:2]}, {first, num(0), num(1), nil}, {first, num(3), num(5), nil}, {first, num(3), num(6), first[2:]}, {first, num(6), num(9), nil},
		{first, num(2), num(2), nil}, {first, num(5), num(2), nil}, {first, num(9), num(0), nil}, {first, num(api.WordLow), num(api.WordHigh), first}, {first, num(1), text(""), first}, {first, text(""), tuple(), nil}, {nil, num(1), num(2), nil},
		{mixed, text(""), tuple(), mixed[2:5]}, {mixed, text("a"), text("b"), mixed[3:5]}, {mixed, text("aa"), tuple(num(0)), mixed[4:6]}, {mixed, num(4), tag(0, num(0)), mixed[1:7]}, {mixed, tuple(), tag(7, num(0)), mixed[5:]}, {mixed, num(api.WordLow), tag(7, num(0)), mixed},
	} {
		if z, e := zset.Range(x.z, x.low, x.high); !same(z, x.want) || e != api.OK {
			t.Errorf("%d: %v, %d", i, z, e)
		}
	}
	for i, row := range badRows() {
		for _, ends := range [][2]api.Value{{row, num(1)}, {num(1), row}, {row, row}} {
			for _, z := range []api.Zset{nil, first} {
				if z, e := zset.Range(z, ends[0], ends[1]); len(z) > 0 || e != api.ErrArg {
					t.Errorf("the bad row %d: %v, %d", i, z, e)
				}
			}
		}
	}
}
