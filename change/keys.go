package change

import (
	"iter"
	"slices"

	"deltaworks/api"
	"deltaworks/lists"
	"deltaworks/refuse"
	"deltaworks/value"
)

// mapForm is the form of maps from keys of a type to data of a form.
type mapForm struct {
	plain
	key api.Type
	of  form
}

func (f mapForm) is(d api.Data) bool {
	keys, l := d.Keys, d.L
	d.Keys, d.L = nil, nil
	return f.bare(d) && len(keys) == len(l) && f.rise(keys) && lists.Every(l, f.of.is)
}

func (f mapForm) fits(c api.Change) bool {
	l := c.Keys
	c.Keys = nil
	return f.still(c) && len(l) <= api.DataMost && f.rise(lists.Each(l, keyOf)) && lists.Every(l, f.happens)
}

// rise reports whether keys are of their type, and each one is ahead of the next one.
func (f mapForm) rise(keys []api.Value) bool {
	for i, k := range keys {
		if !value.Is(k, f.key) {
			return false
		}
		if i == 0 {
			continue
		}
		if n, _ := value.Compare(keys[i-1], k); n != -1 {
			return false
		}
	}
	return true
}

func keyOf(x api.KeyChange) api.Value { return x.Key }

// happens reports whether something can happen to a key.
func (f mapForm) happens(x api.KeyChange) bool {
	var nothing plain
	switch x.Op {
	case api.KeyPut, api.KeyDrop:
		return nothing.still(x.Change) && isDatum(f.of, x.Data)
	case api.KeyIn:
		return nothing.bare(x.Data) && f.of.fits(x.Change) && !isIdle(x.Change)
	}
	return false
}

// apply puts the change behind one that puts all keys of the map. If something else happens to a key than that it is put, it was not there.
func (f mapForm) apply(d api.Data, c api.Change) api.Data {
	made := f.empty()
	there := true
walk:
	for x := range both(keyed(api.KeyPut, d), c.Keys, f.behind) {
		switch x.Op {
		case api.KeyPut:
			made.Keys, made.L = append(made.Keys, x.Key), append(made.L, x.Data)
		default:
			there = false
			break walk
		}
	}
	refuse.Demand(there, api.ErrState)
	return made
}

// diff is a change that drops all of one map, and one behind it that puts all of the other one.
func (f mapForm) diff(a, b api.Data) api.Change {
	return f.by(both(keyed(api.KeyDrop, a), keyed(api.KeyPut, b), f.behind))
}

func (f mapForm) invert(c api.Change) api.Change {
	return f.by(slices.Values(lists.Each(c.Keys, f.back)))
}

func (f mapForm) compose(a, b api.Change) api.Change { return f.by(both(a.Keys, b.Keys, f.behind)) }

func (f mapForm) merge(a, b api.Change) api.Change { return f.by(both(a.Keys, b.Keys, f.beside)) }

// by returns the change by what happens to keys.
func (f mapForm) by(keys iter.Seq[api.KeyChange]) api.Change {
	c := f.none()
	c.Keys = slices.Collect(keys)
	return c
}

// back turns back what happens to a key.
func (f mapForm) back(x api.KeyChange) api.KeyChange {
	switch x.Op {
	case api.KeyPut:
		x.Op = api.KeyDrop
	case api.KeyDrop:
		x.Op = api.KeyPut
	case api.KeyIn:
		x.Change = f.of.invert(x.Change)
	}
	return x
}

// ops are what happens to one key in two changes.
type ops struct{ first, second int }

// behind returns what happens to a key first, and what happens to it then, as one.
func (f mapForm) behind(x, y api.KeyChange) api.KeyChange {
	switch (ops{x.Op, y.Op}) {
	case ops{api.KeyPut, api.KeyIn}:
		x.Data = applied(f.of, x.Data, y.Change)
		return x
	case ops{api.KeyPut, api.KeyDrop}:
		refuse.Demand(sameData(x.Data, y.Data), api.ErrState)
		return within(x.Key, f.of.none())
	case ops{api.KeyDrop, api.KeyPut}:
		return within(x.Key, f.of.diff(x.Data, y.Data))
	case ops{api.KeyIn, api.KeyDrop}:
		y.Data = applied(f.of, y.Data, f.of.invert(x.Change))
		return y
	case ops{api.KeyIn, api.KeyIn}:
		return within(x.Key, composed(f.of, x.Change, y.Change))
	}
	refuse.With(api.ErrState)
	return x
}

// beside returns what happens to a key in two changes of one map, brought together.
func (f mapForm) beside(x, y api.KeyChange) api.KeyChange {
	refuse.Demand(x.Op == y.Op, api.ErrState)
	if x.Op == api.KeyIn {
		return within(x.Key, merged(f.of, x.Change, y.Change))
	}
	refuse.Demand(sameData(x.Data, y.Data), api.ErrState)
	return x
}

// within returns that what belongs to a key has a change.
func within(key api.Value, c api.Change) api.KeyChange {
	return api.KeyChange{Key: key, Op: api.KeyIn, Change: c}
}

// keyed returns a map as a change, in which one thing happens to all its keys.
func keyed(op int, d api.Data) []api.KeyChange {
	l := make([]api.KeyChange, len(d.Keys))
	for i, k := range d.Keys {
		l[i] = api.KeyChange{Key: k, Op: op, Data: d.L[i]}
	}
	return l
}

// both yields, key by key in order, what happens in two lists: what happens in one of them alone, and what of makes of what happens in both, unless this changes nothing.
func both(a, b []api.KeyChange, of func(x, y api.KeyChange) api.KeyChange) iter.Seq[api.KeyChange] {
	return func(yield func(api.KeyChange) bool) {
		at, keys := gathered(a, b)
		for _, k := range keys {
			x, y := at[spot{0, k}], at[spot{1, k}]
			var z api.KeyChange
			switch {
			case y == nil:
				z = *x
			case x == nil:
				z = *y
			default:
				z = of(*x, *y)
			}
			idle := z.Op == api.KeyIn && isIdle(z.Change)
			if !idle && !yield(z) {
				return
			}
		}
	}
}

// spot is a key, told by its bytes, in one of several lists.
type spot struct {
	list int
	key  string
}

// gathered returns what happens to each key in some lists, and the bytes of all keys, in order, each once.
func gathered(all ...[]api.KeyChange) (map[spot]*api.KeyChange, []string) {
	at := map[spot]*api.KeyChange{}
	var keys []string
	for i, l := range all {
		for n := range l {
			key := refuse.Unless(value.Key(l[n].Key))
			at[spot{i, key}] = &l[n]
			keys = append(keys, key)
		}
	}
	slices.Sort(keys)
	return at, slices.Compact(keys)
}
