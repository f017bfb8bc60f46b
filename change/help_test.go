package change_test

import (
	"math/rand/v2"
	"reflect"
	"strconv"
	"strings"
	"testing"

	"deltaworks/api"
	"deltaworks/change"
)

// num, text and tuple return values, nums and chars lists of them.
func num(n int) api.Value            { return api.Value{N: n} }
func text(s string) api.Value        { return api.Value{Kind: api.ValueText, S: s} }
func tuple(l ...api.Value) api.Value { return api.Value{Kind: api.ValueTuple, L: l} }

func nums(l ...int) (out []api.Value) {
	for _, n := range l {
		out = append(out, num(n))
	}
	return out
}

func chars(s string) (l []api.Value) {
	for i := range len(s) {
		l = append(l, num(int(s[i])))
	}
	return l
}

// rows returns a collection of words: a row, its count, the next row, and so on; many has n words from one on, each so often.
func rows(l ...int) (z api.Zset) {
	for i := 0; i < len(l); i += 2 {
		z = append(z, api.Item{Row: num(l[i]), N: l[i+1]})
	}
	return z
}

func many(from, n, count int) api.Zset {
	z := make(api.Zset, n)
	for i := range z {
		z[i] = api.Item{Row: num(from + i), N: count}
	}
	return z
}

// told returns the edit that the chapter tells so: =1 -b +xy.
func told(s string) (e []api.EditPiece) {
	for _, p := range strings.Fields(s) {
		switch p[0] {
		case '=':
			n, _ := strconv.Atoi(p[1:])
			e = append(e, api.EditPiece{Kind: api.EditKeep, N: n})
		case '-':
			e = append(e, api.EditPiece{Kind: api.EditDrop, L: chars(p[1:])})
		case '+':
			e = append(e, api.EditPiece{Kind: api.EditPut, L: chars(p[1:])})
		}
	}
	return e
}

// Types of words of each kind; of returns one of other values, tuples and maps types of others.
func kind(k int) api.DataType { return api.DataType{Kind: k} }

func of(k int, t api.Type) api.DataType     { return api.DataType{Kind: k, T: t} }
func tuples(l ...api.DataType) api.DataType { return api.DataType{Kind: api.DataTuple, L: l} }
func mapsOf(of api.DataType) api.DataType {
	return api.DataType{Kind: api.DataMap, L: []api.DataType{of}}
}
func pairType() api.Type                    { return api.Type{Kind: api.TypeTuple, L: []api.Type{{}, textType()}} }
func textType() api.Type                    { return api.Type{Kind: api.TypeText} }
func textMaps(of api.DataType) api.DataType { m := mapsOf(of); m.T = textType(); return m }
func sumType() api.Type                     { return api.Type{Kind: api.TypeSum, L: []api.Type{{}, textType()}} }
func tagged(n int, v api.Value) api.Value {
	return api.Value{Kind: api.ValueTag, N: n, L: []api.Value{v}}
}

// Data of each kind; mapped returns a map of words: a key, its datum, the next key, and so on.
func valued(n int) api.Data         { return api.Data{V: num(n)} }
func counted(n int) api.Data        { return api.Data{Kind: api.DataCount, N: n} }
func texted(s string) api.Data      { return api.Data{Kind: api.DataText, S: s} }
func listed(s string) api.Data      { return api.Data{Kind: api.DataList, List: chars(s)} }
func bagged(z api.Zset) api.Data    { return api.Data{Kind: api.DataBag, Rows: z} }
func setted(z api.Zset) api.Data    { return api.Data{Kind: api.DataSet, Rows: z} }
func tupled(l ...api.Data) api.Data { return api.Data{Kind: api.DataTuple, L: l} }
func mapped(l ...any) (out api.Data) {
	out.Kind = api.DataMap
	for i := 0; i < len(l); i += 2 {
		out.Keys, out.L = append(out.Keys, num(l[i].(int))), append(out.L, l[i+1].(api.Data))
	}
	return out
}

// Changes of each kind.
func turned(from, to int) api.Change      { return api.Change{N: 1, Old: num(from), New: num(to)} }
func added(n int) api.Change              { return api.Change{Kind: api.DataCount, N: n} }
func typed(s string) api.Change           { return api.Change{Kind: api.DataText, Edit: told(s)} }
func edited(s string) api.Change          { return api.Change{Kind: api.DataList, Edit: told(s)} }
func summed(z api.Zset) api.Change        { return api.Change{Kind: api.DataBag, Rows: z} }
func flipped(z api.Zset) api.Change       { return api.Change{Kind: api.DataSet, Rows: z} }
func parted(l ...api.Change) api.Change   { return api.Change{Kind: api.DataTuple, L: l} }
func keyed(l ...api.KeyChange) api.Change { return api.Change{Kind: api.DataMap, Keys: l} }
func put(k int, d api.Data) api.KeyChange { return api.KeyChange{Key: num(k), Op: api.KeyPut, Data: d} }
func drop(k int, d api.Data) api.KeyChange {
	return api.KeyChange{Key: num(k), Op: api.KeyDrop, Data: d}
}
func in(k int, c api.Change) api.KeyChange {
	return api.KeyChange{Key: num(k), Op: api.KeyIn, Change: c}
}
func puts(from, n int, d api.Data) (l []api.KeyChange) {
	for i := range n {
		l = append(l, put(from+i, d))
	}
	return l
}

// all is a tuple of all kinds; nested is a map of maps.
func all() api.DataType {
	return tuples(kind(api.DataValue), kind(api.DataCount), kind(api.DataText), kind(api.DataList), kind(api.DataBag), kind(api.DataSet), mapsOf(kind(api.DataCount)), tuples())
}

func nested() api.DataType { return mapsOf(mapsOf(kind(api.DataCount))) }

// same reports whether two results are the same, where nil and empty lists are.
func same[T any](a, b T) bool { return sameReflect(reflect.ValueOf(a), reflect.ValueOf(b)) }

func sameReflect(a, b reflect.Value) bool {
	switch a.Kind() {
	case reflect.Struct:
		for i := range a.NumField() {
			if !sameReflect(a.Field(i), b.Field(i)) {
				return false
			}
		}
		return true
	case reflect.Slice:
		if a.Len() != b.Len() {
			return false
		}
		for i := range a.Len() {
			if !sameReflect(a.Index(i), b.Index(i)) {
				return false
			}
		}
		return true
	}
	return a.Equal(b)
}

// copied returns all of x in new memory, with room behind each list.
func copied[T any](x T) T { return copiedReflect(reflect.ValueOf(x)).Interface().(T) }

func copiedReflect(x reflect.Value) reflect.Value {
	c := reflect.New(x.Type()).Elem()
	switch x.Kind() {
	case reflect.Struct:
		for i := range x.NumField() {
			c.Field(i).Set(copiedReflect(x.Field(i)))
		}
	case reflect.Slice:
		c.Set(reflect.MakeSlice(x.Type(), x.Len(), x.Len()+2))
		for i := range x.Len() {
			c.Index(i).Set(copiedReflect(x.Index(i)))
		}
	default:
		c.Set(x)
	}
	return c
}

// memory is the places of all lists that were seen.
type memory map[uintptr]bool

// isNew adds the memory of x, also behind the ends of lists, and reports whether none of it was seen.
func (m memory) isNew(x reflect.Value) bool {
	fresh := true
	switch x.Kind() {
	case reflect.Struct:
		for i := range x.NumField() {
			fresh = m.isNew(x.Field(i)) && fresh
		}
	case reflect.Slice:
		whole := x.Slice(0, x.Cap())
		for i := range whole.Len() {
			p := whole.Index(i).Addr().Pointer()
			fresh = fresh && !m[p]
			m[p] = true
			if i < x.Len() {
				fresh = m.isNew(whole.Index(i)) && fresh
			}
		}
	}
	return fresh
}

// spoil changes all memory of x that can be changed, also behind the ends of lists.
func spoil(x reflect.Value) {
	switch x.Kind() {
	case reflect.Struct:
		for i := range x.NumField() {
			spoil(x.Field(i))
		}
	case reflect.Slice:
		whole := x.Slice(0, x.Cap())
		for i := range whole.Len() {
			spoil(whole.Index(i))
		}
	case reflect.Int:
		if x.CanSet() {
			x.SetInt(-77)
		}
	case reflect.String:
		if x.CanSet() {
			x.SetString("\x00")
		}
	}
}

// someRand returns numbers that are the same ones each time.
func someRand() *rand.Rand { return rand.New(rand.NewPCG(9, 10)) }

// must returns what a call returns, which must be without an error.
func must[T any](x T, e api.Errno) func(t *testing.T) T {
	return func(t *testing.T) T {
		t.Helper()
		if e != api.OK {
			t.Fatalf("error %d", e)
		}
		return x
	}
}

// isNone reports whether a change is the one of the type that changes nothing.
func isNone(ty api.DataType, c api.Change) bool {
	none, e := change.None(ty)
	return e == api.OK && same(c, none)
}
