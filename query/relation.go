package query

import (
	"slices"

	"deltaworks/api"
	"deltaworks/refuse"
)

// row is a row of a relation of tuples, by the numbers of its parts. At the places behind them it is 0.
type row [api.Wide]int

// lookup asks for the rows that are as a row is at some places, which are bits. At the others this is 0.
type lookup struct {
	places int
	row    row
}

// everywhere is all places.
const everywhere = 1<<api.Wide - 1

// relation is the rows of a relation that rules name, each once, in the order in which they came; those from one place up to another one are new. They are found by the places by which somebody looked them up already.
type relation struct {
	rows     []row
	from, to int
	lookups  []int
	found    map[lookup][]row
}

// put adds a row, if it is not there; it refuses one too many.
func (l *relation) put(r row) {
	if len(l.find(lookup{everywhere, r})) > 0 {
		return
	}
	refuse.Demand(len(l.rows) < api.RowsMost, api.ErrFull)
	l.rows = append(l.rows, r)
	for _, places := range l.lookups {
		l.enter(places, r)
	}
}

// find returns the rows that are asked for.
func (l *relation) find(asked lookup) []row {
	if !slices.Contains(l.lookups, asked.places) {
		l.lookups = append(l.lookups, asked.places)
		for _, r := range l.rows {
			l.enter(asked.places, r)
		}
	}
	return l.found[asked]
}

// enter adds a row to those that are found by some places.
func (l *relation) enter(places int, r row) {
	k := lookup{places: places}
	for i, n := range r {
		if places>>i&1 == 1 {
			k.row[i] = n
		}
	}
	l.found[k] = append(l.found[k], r)
}

// news returns the rows that are new, whichever are asked for.
func (l *relation) news(lookup) []row { return l.rows[l.from:l.to] }

// turn lets those rows be new that came since the last turn, and reports whether there are any.
func (l *relation) turn() bool {
	l.from, l.to = l.to, len(l.rows)
	return l.from < l.to
}

// rowOf returns the row of which each part has the number that number tells.
func rowOf[T any](parts []T, number func(T) int) row {
	var r row
	for i, x := range parts {
		r[i] = number(x)
	}
	return r
}
