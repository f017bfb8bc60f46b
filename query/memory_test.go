package query_test

import (
	"reflect"
	"slices"
	"sync"
	"testing"

	"deltaworks/api"
	"deltaworks/query"
)

// copied returns all of x in new memory, with room behind each list.
func copied[T any](x T) T { return copiedReflect(reflect.ValueOf(x)).Interface().(T) }

func copiedReflect(x reflect.Value) reflect.Value {
	c := reflect.New(x.Type()).Elem()
	switch x.Kind() {
	case reflect.Struct:
		for i := range x.NumField() {
			c.Field(i).Set(copiedReflect(x.Field(i)))
		}
	case reflect.Slice:
		c.Set(reflect.MakeSlice(x.Type(), x.Len(), x.Len()+2))
		for i := range x.Len() {
			c.Index(i).Set(copiedReflect(x.Index(i)))
		}
	default:
		c.Set(x)
	}
	return c
}

// memory is the places of all lists that were seen.
type memory map[uintptr]bool

// isNew adds the memory of x, also behind the ends of lists, and reports whether none of it was seen.
func (m memory) isNew(x reflect.Value) bool {
	fresh := true
	switch x.Kind() {
	case reflect.Struct:
		for i := range x.NumField() {
			fresh = m.isNew(x.Field(i)) && fresh
		}
	case reflect.Slice:
		all := x.Slice(0, x.Cap())
		for i := range all.Len() {
			p := all.Index(i).Addr().Pointer()
			fresh = fresh && !m[p]
			m[p] = true
			if i < x.Len() {
				fresh = m.isNew(all.Index(i)) && fresh
			}
		}
	}
	return fresh
}

// spoil changes all memory of x that can be changed, also behind the ends of lists.
func spoil(x reflect.Value) {
	switch x.Kind() {
	case reflect.Struct:
		for i := range x.NumField() {
			spoil(x.Field(i))
		}
	case reflect.Slice:
		all := x.Slice(0, x.Cap())
		for i := range all.Len() {
			spoil(all.Index(i))
		}
	case reflect.Int:
		if x.CanSet() {
			x.SetInt(-77)
		}
	case reflect.String:
		if x.CanSet() {
			x.SetString("\x00")
		}
	}
}

// isClear reports whether there is nothing behind the ends of all lists of x.
func isClear(x reflect.Value) bool {
	clear := true
	switch x.Kind() {
	case reflect.Struct:
		for i := range x.NumField() {
			clear = clear && isClear(x.Field(i))
		}
	case reflect.Slice:
		all := x.Slice(0, x.Cap())
		for i := range all.Len() {
			clear = clear && (i < x.Len() && isClear(all.Index(i)) || i >= x.Len() && all.Index(i).IsZero())
		}
	}
	return clear
}

func TestMemory(t *testing.T) { // P6.6, R4, W11
	m := someMaker()
	for range 400 {
		s := copied(m.setting())
		again, args := copied(s), memory{}
		if !args.isNew(reflect.ValueOf(&s).Elem()) {
			t.Fatal("the arguments share memory")
		}
		results := calls(s)
		if !same(s, again) || !isClear(reflect.ValueOf(&s).Elem()) {
			t.Fatalf("arguments became %v, from %v", s, again)
		}
		for i, o := range results {
			if !args.isNew(reflect.ValueOf(&o).Elem()) {
				t.Fatalf("function %d of %v shares memory", i, again)
			}
		}
		spoil(reflect.ValueOf(&s).Elem())
		if other := calls(again); !same(other, results) {
			t.Fatalf("%v, and again %v", results, other)
		}
	}
}

func TestSharedArguments(t *testing.T) { // R4: parts of an argument may share memory, those of a result do not
	z := rows("(1, 2); (2, 3): 2")
	p := sample()
	p.Inputs[1] = p.Inputs[0]
	p.Views = append(p.Views, sumOf(0), sumOf(0), keepOf(0, whole(1)), onceOf(0))
	p.Outs = []int{0, 0, 1, 6, 6, 7, 8, 9}
	all := []outcome{relsAs(query.Eval(p, []api.Zset{z, z})), relsAs(query.Answers(p, []api.Zset{z, z})), relsAs(query.Apply(p, []api.Zset{z, nil}, []api.Zset{nil, z})), versionsAs(query.Versions(p, [][]api.Zset{{z, z}, {nil, nil}, {nil, z}})), typesAs(query.Types(p)), blocksAs(query.Blocks(p))}
	args := memory{}
	args.isNew(reflect.ValueOf(&z).Elem())
	args.isNew(reflect.ValueOf(&p).Elem())
	for i, o := range all {
		if o.E != api.OK || !args.isNew(reflect.ValueOf(&o).Elem()) {
			t.Errorf("the result %d shares memory: %v", i, o)
		}
	}
}

func TestCallsSideBySide(t *testing.T) { // W11: nothing is kept from call to call, and arguments are only read
	m := someMaker()
	for range 20 {
		s := m.setting()
		want := calls(s)
		wrong := make([]bool, 8)
		var group sync.WaitGroup
		for i := range wrong {
			group.Go(func() {
				for range 5 {
					wrong[i] = wrong[i] || !same(calls(s), want)
				}
			})
		}
		group.Wait()
		if slices.Contains(wrong, true) {
			t.Errorf("other results side by side")
		}
	}
}
