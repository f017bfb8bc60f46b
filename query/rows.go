package query

import (
	"iter"
	"slices"

	"deltaworks/api"
	"deltaworks/lists"
	"deltaworks/refuse"
	"deltaworks/zset"
)

func (v mapped) rows(rels []api.Zset) api.Zset {
	var l []api.Item
	for _, made := range v.functions(v.row(0)) {
		for _, x := range rels[v.From[0]] {
			l = append(l, api.Item{Row: made(x.Row), N: x.N})
		}
	}
	return refuse.Unless(zset.Make(l))
}

func (v kept) rows(rels []api.Zset) api.Zset {
	keeps := v.functions(v.row(0))[0]
	drops := func(x api.Item) bool { return keeps(x.Row).N == 0 }
	return slices.DeleteFunc(slices.Clone(rels[v.From[0]]), drops)
}

func (v summed) rows(rels []api.Zset) api.Zset { return refuse.Unless(zset.Sum(picked(rels, v.From))) }

func (v negated) rows(rels []api.Zset) api.Zset { return refuse.Unless(zset.Neg(rels[v.From[0]])) }

func (v once) rows(rels []api.Zset) api.Zset { return refuse.Unless(zset.Once(rels[v.From[0]])) }

func (v joined) rows(rels []api.Zset) api.Zset {
	first, second := rels[v.From[0]], rels[v.From[1]]
	result := v.in.function(v.F[2], v.row(0), v.row(1))
	grows := lists.Every(first, isSmall) && lists.Every(second, isSmall)
	var made table[int]
	for x, y := range v.matches(first, second) {
		n := made.at(result(x.Row, y.Row))
		*n += x.N * y.N
		refuse.Demand(!grows || len(made.entries) <= api.RowsMost, api.ErrFull)
	}
	var l []api.Item
	for row, n := range made.all() {
		l = append(l, api.Item{Row: row, N: n})
	}
	return refuse.Unless(zset.Make(l))
}

// isSmall reports whether a count is above 0, and so small that the products of any two such counts, of all pairs of rows there can be, do not wrap together. Then no count comes to 0 again, and too many rows are refused as soon as they are there.
func isSmall(x api.Item) bool { return isFrom(x.N, 1, 1<<16) }

// matches yields all pairs of items whose rows have the same key.
func (v joined) matches(first, second api.Zset) iter.Seq2[api.Item, api.Item] {
	return func(yield func(x, y api.Item) bool) {
		keyOf := v.in.function(v.F[1], v.row(1))
		var others table[api.Zset]
		for _, y := range second {
			same := others.at(keyOf(y.Row))
			*same = append(*same, y)
		}
		keyOf = v.in.function(v.F[0], v.row(0))
		for _, x := range first {
			for _, y := range *others.at(keyOf(x.Row)) {
				if !yield(x, y) {
					return
				}
			}
		}
	}
}

func (v folded) rows(rels []api.Zset) api.Zset {
	l := v.functions(v.row(0))
	var groups table[[]weighed]
	for _, x := range rels[v.From[0]] {
		word := 1
		if len(l) > 1 {
			word = l[1](x.Row).N
		}
		group := groups.at(l[0](x.Row))
		*group = append(*group, weighed{word, x.N})
	}
	var made []api.Item
	for key, group := range groups.all() {
		if word, is := folds()[v.N].of(group); is {
			made = append(made, api.Item{Row: tuple(key, api.Value{Kind: api.ValueInt, N: word}), N: 1})
		}
	}
	return refuse.Unless(zset.Make(made))
}

func tuple(parts ...api.Value) api.Value { return api.Value{Kind: api.ValueTuple, L: parts} }
