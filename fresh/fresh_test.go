package fresh_test

import (
	"slices"
	"testing"

	"deltaworks/api"
	"deltaworks/fresh"
)

func same(a, b api.Value) bool {
	return a.Kind == b.Kind && a.N == b.N && a.S == b.S && slices.EqualFunc(a.L, b.L, same)
}

func TestValue(t *testing.T) { // R4
	inner := []api.Value{{N: 1}, {Kind: api.ValueText, S: "a"}}
	outer := []api.Value{{Kind: api.ValueTag, N: 3, L: inner[:1]}, {Kind: api.ValueTuple, L: inner}, {Kind: api.ValueTuple}}
	v := api.Value{Kind: api.ValueTuple, L: outer}
	c := fresh.Value(v)
	if !same(v, c) {
		t.Fatalf("%v of %v", c, v)
	}
	c.L[0].L[0].N, c.L[1].L[1].S, c.L[2].Kind = 7, "b", 0
	if inner[0].N != 1 || inner[1].S != "a" || outer[2].Kind != api.ValueTuple || c.L[1].L[0].N != 1 {
		t.Errorf("%v and %v share memory", v, c)
	}
}

func TestList(t *testing.T) { // R3, R4, R6
	l := []int{3, 1, 2}
	var seen []int
	c := fresh.List(l, func(n int) int {
		seen = append(seen, n)
		return n * 10
	})
	if !slices.Equal(c, []int{30, 10, 20}) || !slices.Equal(seen, l) || !slices.Equal(l, []int{3, 1, 2}) {
		t.Errorf("%v of %v, in the order %v", c, l, seen)
	}
	if z := fresh.List(api.Zset{}, func(x api.Item) api.Item { return x }); len(z) > 0 {
		t.Errorf("%v of nothing", z)
	}
}

func TestType(t *testing.T) { // R4
	inner := []api.Type{{}, {Kind: api.TypeText}}
	outer := []api.Type{{Kind: api.TypeSum, L: inner}, {Kind: api.TypeTuple, L: inner}, {Kind: api.TypeTuple}}
	c := fresh.Type(api.Type{Kind: api.TypeTuple, L: outer})
	if c.Kind != api.TypeTuple || len(c.L) != 3 || c.L[0].Kind != api.TypeSum || len(c.L[0].L) != 2 || c.L[1].L[1].Kind != api.TypeText || len(c.L[2].L) > 0 {
		t.Fatalf("%v of %v", c, outer)
	}
	c.L[0].L[1].Kind, c.L[2].Kind = api.TypeInt, api.TypeInt
	if inner[1].Kind != api.TypeText || outer[2].Kind != api.TypeTuple || c.L[1].L[1].Kind != api.TypeText {
		t.Errorf("%v and %v share memory", c, outer)
	}
}

func TestZset(t *testing.T) { // R3, R4
	row := []api.Value{{N: 1}}
	z := api.Zset{{Row: api.Value{Kind: api.ValueTuple, L: row}, N: -2}, {Row: api.Value{Kind: api.ValueText, S: "a"}, N: 3}}
	c := fresh.Zset(z)
	if len(c) != 2 || c[0].N != -2 || c[1].N != 3 || !same(c[0].Row, z[0].Row) || !same(c[1].Row, z[1].Row) {
		t.Fatalf("%v of %v", c, z)
	}
	c[0].Row.L[0].N, c[1].N = 7, 7
	if row[0].N != 1 || z[1].N != 3 || len(fresh.Zset(nil)) > 0 {
		t.Errorf("%v and %v share memory", c, z)
	}
}
