package change_test

import (
	"maps"
	"reflect"
	"slices"
	"sync"
	"testing"

	"deltaworks/api"
	"deltaworks/change"
)

func TestDifferences(t *testing.T) { // P4.9
	r := someRand()
	types, _ := someTypes()
	for i, ty := range types {
		for range 200 {
			a, b := someDatum(r, ty), someDatum(r, ty)
			c := must(change.Diff(ty, a, b))(t)
			if d := must(change.Apply(ty, a, c))(t); !same(d, b) {
				t.Fatalf("%d: from %v to %v: %v, which leads to %v", i, a, b, c, d)
			}
			if isNone(ty, c) != same(a, b) || !isNone(ty, must(change.Diff(ty, a, a))(t)) {
				t.Fatalf("%d: from %v to %v: %v", i, a, b, c)
			}
			if fits, _ := change.Fits(ty, c); !fits {
				t.Fatalf("%d: %v is no change", i, c)
			}
		}
	}
}

func TestOneAfterTheOther(t *testing.T) { // P4.9
	r := someRand()
	types, few := someTypes()
	for i, ty := range types {
		for range 300 {
			d := someDatum(r, ty)
			a, x := someChange(r, ty, d)
			b, y := someChange(r, ty, x)
			c, z := someChange(r, ty, y)
			ab, bc := must(change.Compose(ty, a, b))(t), must(change.Compose(ty, b, c))(t)
			left, right := must(change.Compose(ty, ab, c))(t), must(change.Compose(ty, a, bc))(t)
			if made := must(change.Apply(ty, d, ab))(t); !same(made, y) {
				t.Fatalf("%d: %v, then %v, make of %v: %v", i, a, b, d, made)
			}
			if one, other := must(change.Apply(ty, d, left))(t), must(change.Apply(ty, d, right))(t); !same(one, z) || !same(other, z) {
				t.Fatalf("%d: %v, %v, %v make of %v: %v and %v", i, a, b, c, d, one, other)
			}
			if i < few && !(same(left, right) && same(left, must(change.Diff(ty, d, z))(t))) {
				t.Fatalf("%d: %v, %v, %v: %v and %v", i, a, b, c, left, right)
			}
			for _, c := range []api.Change{ab, bc, left, right} {
				if fits, _ := change.Fits(ty, c); !fits {
					t.Fatalf("%d: %v is no change", i, c)
				}
			}
		}
	}
}

func TestBack(t *testing.T) { // P4.9
	r := someRand()
	types, few := someTypes()
	for i, ty := range types {
		for range 200 {
			d := someDatum(r, ty)
			a, x := someChange(r, ty, d)
			back := must(change.Invert(ty, a))(t)
			if made := must(change.Apply(ty, x, back))(t); !same(made, d) {
				t.Fatalf("%d: %v leads back to %v from %v", i, back, made, x)
			}
			if again := must(change.Invert(ty, back))(t); !same(again, a) {
				t.Fatalf("%d: %v, twice turned back, is %v", i, a, again)
			}
			if c := must(change.Compose(ty, a, back))(t); i < few && !isNone(ty, c) {
				t.Fatalf("%d: %v, and back, is %v", i, a, c)
			}
		}
	}
}

func TestWhicheverComesFirst(t *testing.T) { // P4.9
	r := someRand()
	types, few := someTypes()
	for i, ty := range types[:few] {
		for range 300 {
			d := someDatum(r, ty)
			a, _ := someChange(r, ty, d)
			b, _ := someChange(r, ty, d)
			one, e := change.Merge(ty, a, b)
			other, f := change.Merge(ty, b, a)
			if e != f || !same(one, other) {
				t.Fatalf("%d: %v and %v: %v, %d; %v, %d", i, a, b, one, e, other, f)
			}
		}
	}
}

// all of a small kind of maps and of sets: what happens to each of two keys, or rows, by itself.
func smallMaps() (data []api.Data, changes []api.Change) {
	there := func(k int) [][]any {
		return [][]any{nil, {k, valued(0)}, {k, valued(1)}, {k, valued(2)}}
	}
	happens := func(k int) [][]api.KeyChange {
		l := [][]api.KeyChange{nil}
		for v := range 3 {
			l = append(l, []api.KeyChange{put(k, valued(v))}, []api.KeyChange{drop(k, valued(v))}, []api.KeyChange{in(k, turned(v, (v+1)%3))}, []api.KeyChange{in(k, turned(v, (v+2)%3))})
		}
		return l
	}
	for _, x := range there(1) {
		for _, y := range there(2) {
			data = append(data, mapped(slices.Concat(x, y)...))
		}
	}
	for _, x := range happens(1) {
		for _, y := range happens(2) {
			changes = append(changes, keyed(slices.Concat(x, y)...))
		}
	}
	return data, changes
}

func smallSets() (data []api.Data, changes []api.Change) {
	for i := range 8 {
		data = append(data, setted(without(rows(1, i&1, 2, i>>1&1, 3, i>>2))))
	}
	for i := range 27 {
		changes = append(changes, flipped(without(rows(1, i%3-1, 2, i/3%3-1, 3, i/9-1))))
	}
	return data, changes
}

// leads returns where each change leads from each datum, by its number; -1: it cannot be applied.
func leads(t *testing.T, ty api.DataType, data []api.Data, changes []api.Change) [][]int {
	var l [][]int
	for _, c := range changes {
		var to []int
		for _, d := range data {
			made, e := change.Apply(ty, d, c)
			if e != api.OK && e != api.ErrState {
				t.Fatalf("%v makes of %v: %d", c, d, e)
			}
			to = append(to, slices.IndexFunc(data, func(x api.Data) bool { return e == api.OK && same(x, made) }))
		}
		l = append(l, to)
	}
	return l
}

func TestAllOfAFew(t *testing.T) { // P4.3, P4.6, P4.7, P4.9: two changes are one just if some datum can have both, one after the other
	for _, small := range []struct {
		ty  api.DataType
		all func() ([]api.Data, []api.Change)
	}{{mapsOf(kind(api.DataValue)), smallMaps}, {kind(api.DataSet), smallSets}} {
		data, changes := small.all()
		to := leads(t, small.ty, data, changes)
		for i, a := range changes {
			for k, b := range changes {
				one, e := change.Compose(small.ty, a, b)
				both, f := change.Merge(small.ty, a, b)
				any := false
				for n, d := range data {
					if to[i][n] >= 0 && to[k][to[i][n]] >= 0 {
						any = true
						if made, g := change.Apply(small.ty, d, one); g != api.OK || !same(made, data[to[k][to[i][n]]]) {
							t.Fatalf("%v and %v as one, %v, make of %v: %v, %d", a, b, one, d, made, g)
						}
					}
					if to[i][n] >= 0 && to[k][n] >= 0 && f == api.OK {
						if _, g := change.Apply(small.ty, d, both); g != api.OK {
							t.Fatalf("%v and %v, brought together: %v, of %v: %d", a, b, both, d, g)
						}
					}
				}
				if any != (e == api.OK) || !any && e != api.ErrClash {
					t.Fatalf("%v and %v: %v, %d", a, b, one, e)
				}
			}
		}
	}
}

func TestMemory(t *testing.T) { // P4.8, R4, W11
	r := someRand()
	types, _ := someTypes()
	for i, ty := range types {
		for range 30 {
			d := someDatum(r, ty)
			a, _ := someChange(r, ty, d)
			b, _ := someChange(r, ty, d)
			d1, d2, a1, b1, ty1 := copied(d), copied(someDatum(r, ty)), copied(a), copied(b), copied(ty)
			again, args := copied(d2), memory{}
			for _, x := range []any{&d1, &d2, &a1, &b1, &ty1} {
				if !args.isNew(reflect.ValueOf(x).Elem()) {
					t.Fatalf("the arguments share memory")
				}
			}
			results := calls(ty1, d1, d2, a1, b1)
			if !same(d1, d) || !same(d2, again) || !same(a1, a) || !same(b1, b) || !same(ty1, ty) {
				t.Fatalf("%d: arguments became %v, %v, %v, %v, %v", i, d1, d2, a1, b1, ty1)
			}
			for name, o := range results {
				if !args.isNew(reflect.ValueOf(&o.d).Elem()) || !args.isNew(reflect.ValueOf(&o.c).Elem()) {
					t.Fatalf("%d: %s of %v, %v, %v and %v shares memory", i, name, d, again, a, b)
				}
			}
			for _, x := range []any{&d1, &d2, &a1, &b1, &ty1} {
				spoil(reflect.ValueOf(x).Elem())
			}
			if other := calls(ty, d, again, a, b); !same(sorted(other), sorted(results)) {
				t.Fatalf("%d: %v, and again %v", i, results, other)
			}
		}
	}
}

// sorted returns results by the names of the calls.
func sorted(results map[string]outcome) (l []outcome) {
	for _, name := range slices.Sorted(maps.Keys(results)) {
		l = append(l, results[name])
	}
	return l
}

func TestCallsSideBySide(t *testing.T) { // W11: nothing is kept from call to call, and arguments are only read
	r := someRand()
	ty := all()
	d, d2 := someDatum(r, ty), someDatum(r, ty)
	a, _ := someChange(r, ty, d)
	b, _ := someChange(r, ty, d)
	want := sorted(calls(ty, d, d2, a, b))
	wrong := make([]bool, 8)
	var group sync.WaitGroup
	for i := range wrong {
		group.Go(func() {
			for range 30 {
				wrong[i] = wrong[i] || !same(sorted(calls(ty, d, d2, a, b)), want)
			}
		})
	}
	group.Wait()
	if slices.Contains(wrong, true) {
		t.Errorf("other results side by side")
	}
}
