package zset

import (
	"deltaworks/api"
	"deltaworks/refuse"
	"deltaworks/value"
)

// making is a collection in the making: entries, each of another row, in any order; and by its key, where each one stands. Rows whose counts have come to 0 stay until the end, because they may come again.
type making struct {
	entries
	at map[string]int
}

func begin() *making { return &making{at: map[string]int{}} }

// take adds an item.
func (m *making) take(x entry) {
	if i, found := m.at[x.key]; found {
		m.entries[i].N += x.N
		return
	}
	m.at[x.key] = len(m.entries)
	m.put(x)
}

// whole returns the collection that was made.
func (m *making) whole() api.Zset { return entries(ordered(m.entries, byKey())).zset() }

// sum returns the sum of collections; it reads them one by one, so the first one that is not valid is refused.
func sum(zs ...api.Zset) api.Zset {
	m := begin()
	for _, z := range zs {
		pass(read(z), m.take)
	}
	return m.whole()
}

// pass gives all items to take, one by one.
func pass(l entries, take func(entry)) {
	for _, x := range l {
		take(x)
	}
}

// pairs returns all pairs of rows of two collections, which are in order because both collections are. A pair that is no valid value is refused, even if its count would be 0.
func pairs(a, b entries) entries {
	var l entries
	for _, x := range a {
		for _, y := range b {
			row := api.Value{Kind: api.ValueTuple, L: []api.Value{x.Row, y.Row}}
			k, e := value.Key(row)
			if e != api.OK {
				refuse.With(api.ErrFull)
			}
			l.put(entry{k, api.Item{Row: row, N: x.N * y.N}})
		}
	}
	return l
}
