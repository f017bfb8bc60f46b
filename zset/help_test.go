package zset_test

import (
	"math/rand/v2"
	"slices"
	"strings"
	"testing"

	"deltaworks/api"
	"deltaworks/value"
	"deltaworks/zset"
)

// num, text, tuple and tag return values, it and of items.
func num(n int) api.Value            { return api.Value{N: n} }
func text(s string) api.Value        { return api.Value{Kind: api.ValueText, S: s} }
func tuple(l ...api.Value) api.Value { return api.Value{Kind: api.ValueTuple, L: l} }

func tag(n int, v api.Value) api.Value {
	return api.Value{Kind: api.ValueTag, N: n, L: []api.Value{v}}
}

func it(n, many int) api.Item             { return api.Item{Row: num(n), N: many} }
func of(row api.Value, many int) api.Item { return api.Item{Row: row, N: many} }

// The least and the greatest count.
const (
	lowest  = -1 << 63
	highest = 1<<63 - 1
)

// first and second are the collections A and B of the chapter's examples.
var (
	first  = api.Zset{it(1, 2), it(2, -1), it(5, 1)}
	second = api.Zset{it(1, -2), it(2, 3), it(7, 1)}
)

// sameValue and same compare what is there, so that nil and empty lists are the same.
func sameValue(a, b api.Value) bool {
	return a.Kind == b.Kind && a.N == b.N && a.S == b.S && slices.EqualFunc(a.L, b.L, sameValue)
}

func same(a, b []api.Item) bool {
	return slices.EqualFunc(a, b, func(x, y api.Item) bool { return x.N == y.N && sameValue(x.Row, y.Row) })
}

// many returns a collection of n words from one on, once each.
func many(from, n int) api.Zset {
	z := make(api.Zset, n)
	for i := range z {
		z[i] = it(from+i, 1)
	}
	return z
}

// tower returns n values one within the other.
func tower(n int) api.Value {
	v := num(1)
	for range n - 1 {
		v = tuple(v)
	}
	return v
}

// sized returns a tuple with n values in it, itself too; n is at most 65.
func sized(n int) api.Value {
	var l []api.Value
	for n--; n > 0; {
		part := min(n, 9)
		l = append(l, tuple(make([]api.Value, part-1)...))
		n -= part
	}
	return tuple(l...)
}

// itself returns a tuple whose only part is this tuple.
func itself() api.Value {
	l := make([]api.Value, 1)
	l[0] = tuple(l...)
	return l[0]
}

// badRows lists values that are not valid.
func badRows() []api.Value {
	return []api.Value{num(1 << 40), num(api.WordLow - 1), {S: "a"}, {Kind: 4}, {Kind: -1}, text("\n"), text(strings.Repeat("a", 101)), tag(8, num(1)), {Kind: api.ValueTag}, tuple(make([]api.Value, 9)...), tuple(num(1), text("\x7f")), tower(7), sized(61), itself()}
}

// rows lists rows of all kinds, in order.
func rows() []api.Value {
	return []api.Value{num(api.WordLow), num(-1), num(0), num(3), num(api.WordHigh), text(""), text("a"), text("aa"), text("b"), tuple(), tuple(num(-1)), tuple(num(1)), tuple(num(1), num(0)), tuple(num(2)), tuple(text("")), tuple(tuple(num(3), text("x")), num(1)), tag(0, num(9)), tag(0, tuple(num(1))), tag(1, num(0)), tag(7, tag(7, tuple(text("y"))))}
}

// copied and copiedList return all of their argument in new memory, with room behind each list.
func copied(v api.Value) api.Value {
	l := make([]api.Value, 0, len(v.L)+2)
	for _, x := range v.L {
		l = append(l, copied(x))
	}
	return api.Value{Kind: v.Kind, N: v.N, S: strings.Clone(v.S), L: l}
}

func copiedList(l []api.Item) []api.Item {
	c := make([]api.Item, 0, len(l)+2)
	for _, x := range l {
		c = append(c, of(copied(x.Row), x.N))
	}
	return c
}

// spoil and spoilList change all memory of their argument that can be changed, also behind its end.
func spoil(v api.Value) {
	l := v.L[:cap(v.L)]
	for i := range l {
		if i < len(v.L) {
			spoil(l[i])
		}
		l[i] = api.Value{Kind: -1, N: 1 << 40, S: "\x00"}
	}
}

func spoilList(l []api.Item) {
	all := l[:cap(l)]
	for i := range all {
		if i < len(l) {
			spoil(l[i].Row)
		}
		all[i] = api.Item{Row: api.Value{Kind: -1}, N: -77}
	}
}

// someRand returns numbers that are the same ones each time.
func someRand() *rand.Rand { return rand.New(rand.NewPCG(5, 6)) }

// someItems returns up to 30 items, in no order, with rows that are there several times, and counts of which many come to 0.
func someItems(r *rand.Rand) []api.Item {
	all := rows()
	counts := []int{-3, -2, -1, -1, 0, 1, 1, 2, 3, lowest, highest, 1 << 32, 1 << 62}
	l := make([]api.Item, r.IntN(31))
	for i := range l {
		l[i] = of(copied(all[r.IntN(len(all))]), counts[r.IntN(len(counts))])
	}
	return l
}

func someZset(t *testing.T, r *rand.Rand) api.Zset {
	t.Helper()
	return must(zset.Make(someItems(r)))(t)
}

// model is a collection as the chapter says it: how often each row is there, by its text.
type model map[string]int

func modelOf(l []api.Item) model {
	m := model{}
	for _, x := range l {
		s, _ := value.Text(x.Row)
		m[s] += x.N
	}
	return m
}

// is reports whether z is the valid collection of a model.
func (m model) is(z api.Zset) bool {
	n := 0
	for _, many := range m {
		if many != 0 {
			n++
		}
	}
	for i, x := range z {
		s, _ := value.Text(x.Row)
		if x.N == 0 || m[s] != x.N {
			return false
		}
		if i > 0 {
			if c, e := value.Compare(z[i-1].Row, x.Row); c != -1 || e != api.OK {
				return false
			}
		}
	}
	return n == len(z)
}

// must returns what a call returns, which must be without an error.
func must[T any](x T, e api.Errno) func(t *testing.T) T {
	return func(t *testing.T) T {
		t.Helper()
		if e != api.OK {
			t.Fatalf("error %d", e)
		}
		return x
	}
}
