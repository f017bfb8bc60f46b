package change_test

import (
	"math/rand/v2"
	"slices"
	"testing"

	"deltaworks/api"
	"deltaworks/change"
	"deltaworks/edit"
)

// someTypes lists types of all kinds, some one within the other; the first few have no texts and no lists.
func someTypes() (l []api.DataType, few int) {
	value, count, bag, set, list, text := kind(api.DataValue), kind(api.DataCount), kind(api.DataBag), kind(api.DataSet), kind(api.DataList), kind(api.DataText)
	pairs := of(api.DataMap, pairType())
	pairs.L = []api.DataType{tuples(of(api.DataValue, pairType()), of(api.DataBag, pairType()), of(api.DataSet, pairType()))}
	l = []api.DataType{value, count, bag, set, mapsOf(value), mapsOf(count), mapsOf(set), mapsOf(bag), nested(), mapsOf(mapsOf(mapsOf(value))), mapsOf(tuples(value, set)), mapsOf(tuples()), tuples(), tuples(value, mapsOf(value), mapsOf(tuples(count, bag)), set), pairs, mapsOf(pairs)}
	return append(l, list, text, mapsOf(list), mapsOf(text), mapsOf(mapsOf(text)), tuples(list, mapsOf(text)), of(api.DataList, pairType()), mapsOf(of(api.DataList, pairType())), all()), len(l)
}

// val returns a value of a type: a word, or a pair of a word and a text. The values of rising numbers rise.
func val(t api.Type, n int) api.Value {
	if t.Kind == api.TypeTuple {
		return tuple(num(n), text("a"))
	}
	return num(n)
}

// row returns the collection that has a value so often.
func row(t api.Type, n, count int) api.Zset {
	return without(api.Zset{{Row: val(t, n), N: count}})
}

// someDatum returns a datum of a type, of few values, so that many are the same.
func someDatum(r *rand.Rand, ty api.DataType) api.Data {
	d := api.Data{Kind: ty.Kind}
	switch ty.Kind {
	case api.DataValue:
		d.V = val(ty.T, r.IntN(3))
	case api.DataCount:
		d.N = []int{0, 1, -1, 5, api.WordLow, api.WordHigh}[r.IntN(6)]
	case api.DataText, api.DataList:
		l := make([]api.Value, r.IntN(6))
		for i := range l {
			l[i] = val(ty.T, 'a'+r.IntN(2))
		}
		return asData(ty.Kind, l)
	case api.DataBag, api.DataSet:
		for i := range 4 {
			n := []int{0, 0, 1, 2, -1, 1 << 62}[r.IntN(6)]
			if ty.Kind == api.DataSet {
				n = r.IntN(2)
			}
			d.Rows = append(d.Rows, row(ty.T, i, n)...)
		}
	case api.DataTuple:
		for _, part := range ty.L {
			d.L = append(d.L, someDatum(r, part))
		}
	case api.DataMap:
		for k := range 4 {
			if r.IntN(2) == 0 {
				d.Keys, d.L = append(d.Keys, val(ty.T, k)), append(d.L, someDatum(r, ty.L[0]))
			}
		}
	}
	return d
}

// without returns the rows whose counts are not 0.
func without(z api.Zset) api.Zset {
	return slices.DeleteFunc(z, func(x api.Item) bool { return x.N == 0 })
}

// asData returns a list as a text or a list; listOf the list of a text or a list.
func asData(k int, l []api.Value) api.Data {
	if k == api.DataList {
		return api.Data{Kind: k, List: l}
	}
	var s []byte
	for _, v := range l {
		s = append(s, byte(v.N))
	}
	return api.Data{Kind: k, S: string(s)}
}

func listOf(d api.Data) []api.Value { return append(chars(d.S), d.List...) }

// someChange returns a change of a datum that is made piece by piece, and what it makes of the datum, by the chapter's rules alone.
func someChange(r *rand.Rand, ty api.DataType, d api.Data) (api.Change, api.Data) {
	c, made := api.Change{Kind: ty.Kind}, api.Data{Kind: ty.Kind}
	switch ty.Kind {
	case api.DataValue:
		made.V = val(ty.T, r.IntN(3))
		if !same(made.V, d.V) {
			c.N, c.Old, c.New = 1, d.V, made.V
		}
	case api.DataCount:
		c.N = []int{0, 1, -1, api.WordLow, api.WordHigh}[r.IntN(5)]
		made.N = int(int32(d.N + c.N))
	case api.DataText, api.DataList:
		e, l := someEdit(r, ty.T, listOf(d))
		c.Edit, made = e, asData(ty.Kind, l)
	case api.DataBag, api.DataSet:
		for i := range 4 {
			was, n := often(ty, d, i), []int{0, 1, -1, 1 << 62}[r.IntN(4)]
			if ty.Kind == api.DataSet {
				n = r.IntN(2) - was
			}
			c.Rows, made.Rows = append(c.Rows, row(ty.T, i, n)...), append(made.Rows, row(ty.T, i, was+n)...)
		}
	case api.DataTuple:
		for i, part := range ty.L {
			x, y := someChange(r, part, d.L[i])
			c.L, made.L = append(c.L, x), append(made.L, y)
		}
	case api.DataMap:
		for k := range 4 {
			x, y := someKey(r, ty, val(ty.T, k), at(ty, d, k))
			c.Keys = append(c.Keys, x...)
			if y != nil {
				made.Keys, made.L = append(made.Keys, val(ty.T, k)), append(made.L, *y)
			}
		}
	}
	return c, made
}

// often returns how often a value is in a collection, at what belongs to a key of a map, or nil, happens what happens to it, or nil.
func often(ty api.DataType, d api.Data, n int) int {
	for _, x := range d.Rows {
		if same(x.Row, val(ty.T, n)) {
			return x.N
		}
	}
	return 0
}

func at(ty api.DataType, d api.Data, k int) *api.Data {
	for i := range d.Keys {
		if same(d.Keys[i], val(ty.T, k)) {
			return &d.L[i]
		}
	}
	return nil
}

func happens(ty api.DataType, c api.Change, k int) *api.KeyChange {
	for i := range c.Keys {
		if same(c.Keys[i].Key, val(ty.T, k)) {
			return &c.Keys[i]
		}
	}
	return nil
}

// someKey returns what happens to a key of a map, and what belongs to it then.
func someKey(r *rand.Rand, ty api.DataType, key api.Value, d *api.Data) ([]api.KeyChange, *api.Data) {
	switch n := r.IntN(4); {
	case d == nil && n < 2:
		fresh := someDatum(r, ty.L[0])
		return []api.KeyChange{{Key: key, Op: api.KeyPut, Data: fresh}}, &fresh
	case d == nil || n == 3:
		return nil, d
	case n == 0:
		return []api.KeyChange{{Key: key, Op: api.KeyDrop, Data: *d}}, nil
	}
	c, made := someChange(r, ty.L[0], *d)
	if isNone(ty.L[0], c) {
		return nil, d
	}
	return []api.KeyChange{{Key: key, Op: api.KeyIn, Change: c}}, &made
}

// someEdit returns an edit of a list, empty if it would only keep, and what it makes: some of the list is dropped, and some letters are put.
func someEdit(r *rand.Rand, t api.Type, l []api.Value) (e []api.EditPiece, made []api.Value) {
	for i, v := range append(slices.Clone(l), num(0)) {
		if n := r.IntN(8); n < 2 {
			fresh := [][]api.Value{{val(t, 'x')}, {val(t, 'a'), val(t, 'b')}}[n]
			e, made = joined(e, api.EditPut, fresh), append(made, fresh...)
		}
		switch {
		case i == len(l):
		case r.IntN(4) == 0:
			e = joined(e, api.EditDrop, []api.Value{v})
		default:
			e, made = joined(e, api.EditKeep, []api.Value{v}), append(made, v)
		}
	}
	if !slices.ContainsFunc(e, func(p api.EditPiece) bool { return p.Kind != api.EditKeep }) {
		return nil, made
	}
	return e, made
}

// joined returns an edit with values behind it; what is dropped stands ahead of what is put just there.
func joined(e []api.EditPiece, k int, l []api.Value) []api.EditPiece {
	last := len(e) - 1
	switch {
	case last >= 0 && e[last].Kind == k && k == api.EditKeep:
		e[last].N += len(l)
		return e
	case last >= 0 && e[last].Kind == k:
		e[last].L = append(e[last].L, l...)
		return e
	case last >= 0 && k == api.EditDrop && e[last].Kind == api.EditPut:
		return append(joined(e[:last:last], k, l), e[last])
	case k == api.EditKeep:
		return append(e, api.EditPiece{Kind: k, N: len(l)})
	}
	return append(e, api.EditPiece{Kind: k, L: slices.Clone(l)})
}

// together returns what two changes make of a datum, by what each one makes of it; false if they clash.
func together(ty api.DataType, d api.Data, a api.Change, x api.Data, b api.Change, y api.Data) (api.Data, bool) {
	made := api.Data{Kind: ty.Kind}
	switch {
	case isNone(ty, a):
		return y, true
	case isNone(ty, b):
		return x, true
	}
	switch ty.Kind {
	case api.DataValue:
		return x, same(x, y)
	case api.DataCount:
		made.N = int(int32(x.N + y.N - d.N))
	case api.DataText, api.DataList:
		behind, _, _ := edit.Cross(a.Edit, b.Edit)
		l, e := edit.Apply(behind, listOf(x))
		return asData(ty.Kind, l), e == api.OK
	case api.DataBag:
		for i := range 4 {
			made.Rows = append(made.Rows, row(ty.T, i, often(ty, x, i)+often(ty, y, i)-often(ty, d, i))...)
		}
	case api.DataSet:
		for i := range 4 {
			n := min(often(ty, x, i), often(ty, y, i))
			if often(ty, d, i) == 0 {
				n = max(often(ty, x, i), often(ty, y, i))
			}
			made.Rows = append(made.Rows, row(ty.T, i, n)...)
		}
	case api.DataTuple:
		for i, part := range ty.L {
			z, ok := together(part, d.L[i], a.L[i], x.L[i], b.L[i], y.L[i])
			if !ok {
				return made, false
			}
			made.L = append(made.L, z)
		}
	case api.DataMap:
		for k := range 4 {
			z, ok := togetherAt(ty, k, d, a, x, b, y)
			if !ok {
				return made, false
			}
			if z != nil {
				made.Keys, made.L = append(made.Keys, val(ty.T, k)), append(made.L, *z)
			}
		}
	}
	return made, true
}

// togetherAt returns the same of a key of a map; nil if it is not there.
func togetherAt(ty api.DataType, k int, d api.Data, a api.Change, x api.Data, b api.Change, y api.Data) (*api.Data, bool) {
	was, one, other := at(ty, d, k), at(ty, x, k), at(ty, y, k)
	ca, cb := happens(ty, a, k), happens(ty, b, k)
	switch {
	case ca == nil:
		return other, true
	case cb == nil:
		return one, true
	case was == nil:
		return one, same(*one, *other)
	case one == nil || other == nil:
		return nil, one == other
	}
	z, ok := together(ty.L[0], *was, ca.Change, *one, cb.Change, *other)
	return &z, ok
}

func TestSomeChanges(t *testing.T) { // P4.1, P4.3, P4.4, P4.5, P4.7
	r := someRand()
	types, few := someTypes()
	clashes, merges := 0, 0
	for i, ty := range types {
		for range 500 {
			d := someDatum(r, ty)
			a, x := someChange(r, ty, d)
			b, y := someChange(r, ty, d)
			if is, _ := change.Is(ty, d); !is {
				t.Fatalf("%d: %v is no datum", i, d)
			}
			if fits, _ := change.Fits(ty, a); !fits {
				t.Fatalf("%d: %v is no change", i, a)
			}
			if made := must(change.Apply(ty, d, a))(t); !same(made, x) {
				t.Fatalf("%d: %v makes of %v: %v", i, a, d, made)
			}
			if c := must(change.Diff(ty, d, x))(t); i < few && !same(c, a) {
				t.Fatalf("%d: from %v to %v: %v", i, d, x, c)
			}
			want, ok := together(ty, d, a, x, b, y)
			c, e := change.Merge(ty, a, b)
			if ok != (e == api.OK) || !ok && e != api.ErrClash {
				t.Fatalf("%d: %v and %v: %d", i, a, b, e)
			}
			if !ok {
				clashes++
				continue
			}
			merges++
			if made := must(change.Apply(ty, d, c))(t); !same(made, want) {
				t.Fatalf("%d: %v and %v, brought together, make of %v: %v", i, a, b, d, made)
			}
		}
	}
	if clashes < 1000 || merges < 1000 {
		t.Errorf("%d clashes, %d others", clashes, merges)
	}
}
