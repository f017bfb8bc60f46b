package change

import (
	"slices"

	"deltaworks/api"
	"deltaworks/fresh"
	"deltaworks/lists"
	"deltaworks/value"
)

// isSmall reports whether the size of a datum is at most DataMost. All fields that its kind does not name are empty, if it is a datum of any type; so one sum serves all kinds. It ends as soon as the datum is too great.
func isSmall(d api.Data) bool {
	room := api.DataMost
	var fill func(api.Data) bool
	fill = func(d api.Data) bool {
		room -= 1 + len(d.S) + len(d.List) + len(d.Rows) + len(d.Keys)
		return room >= 0 && lists.Every(d.L, fill)
	}
	return fill(d)
}

// isIdle reports whether a change changes nothing: whatever its kind, there is nothing in it, but in parts that change nothing.
func isIdle(c api.Change) bool {
	return c.N == 0 && len(c.Edit)+len(c.Rows)+len(c.Keys) == 0 && lists.Every(c.L, isIdle)
}

// sameData reports whether two data of one type are the same.
func sameData(a, b api.Data) bool {
	return a.N == b.N && a.S == b.S && sameValue(a.V, b.V) &&
		slices.EqualFunc(a.List, b.List, sameValue) &&
		slices.EqualFunc(a.Rows, b.Rows, sameItem) &&
		slices.EqualFunc(a.Keys, b.Keys, sameValue) &&
		slices.EqualFunc(a.L, b.L, sameData)
}

func sameItem(a, b api.Item) bool { return a.N == b.N && sameValue(a.Row, b.Row) }

// sameValue reports whether two valid values are the same.
func sameValue(a, b api.Value) bool {
	n, _ := value.Compare(a, b)
	return n == 0
}

// freshData and freshChange return all of a datum, and of a change, in new memory.
func freshData(d api.Data) api.Data {
	d.V = fresh.Value(d.V)
	d.List = fresh.List(d.List, fresh.Value)
	d.Rows = fresh.Zset(d.Rows)
	d.Keys = fresh.List(d.Keys, fresh.Value)
	d.L = fresh.List(d.L, freshData)
	return d
}

func freshChange(c api.Change) api.Change {
	c.Old, c.New = fresh.Value(c.Old), fresh.Value(c.New)
	c.Edit = fresh.List(c.Edit, freshPiece)
	c.Rows = fresh.Zset(c.Rows)
	c.L = fresh.List(c.L, freshChange)
	c.Keys = fresh.List(c.Keys, freshKey)
	return c
}

func freshPiece(p api.EditPiece) api.EditPiece {
	p.L = fresh.List(p.L, fresh.Value)
	return p
}

func freshKey(x api.KeyChange) api.KeyChange {
	x.Key, x.Data, x.Change = fresh.Value(x.Key), freshData(x.Data), freshChange(x.Change)
	return x
}
