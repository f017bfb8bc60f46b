package value_test

import (
	"math/rand/v2"
	"slices"
	"strings"
	"testing"

	"deltaworks/api"
	"deltaworks/value"
)

// num, text, tuple and tag return values, kind a type.
func num(n int) api.Value            { return api.Value{N: n} }
func text(s string) api.Value        { return api.Value{Kind: api.ValueText, S: s} }
func tuple(l ...api.Value) api.Value { return api.Value{Kind: api.ValueTuple, L: l} }

func tag(n int, v api.Value) api.Value {
	return api.Value{Kind: api.ValueTag, N: n, L: []api.Value{v}}
}

func kind(k int, l ...api.Type) api.Type { return api.Type{Kind: k, L: l} }

// The types without parts, and V and T of the chapter's examples.
var (
	whole   = kind(api.TypeInt)
	letters = kind(api.TypeText)
	none    = kind(api.TypeTuple)
	sample  = tuple(num(-3), text("a\"b"), tuple(), tag(2, num(0)))
	typed   = kind(api.TypeTuple, whole, letters, none, kind(api.TypeSum, letters, none, whole))
)

// same and alike compare what is there, so that nil and empty lists are the same.
func same(a, b api.Value) bool {
	return a.Kind == b.Kind && a.N == b.N && a.S == b.S && slices.EqualFunc(a.L, b.L, same)
}

func alike(a, b api.Type) bool { return a.Kind == b.Kind && slices.EqualFunc(a.L, b.L, alike) }

// copied and copiedType return all of their argument in new memory.
func copied(v api.Value) api.Value {
	l := make([]api.Value, 0, len(v.L))
	for _, x := range v.L {
		l = append(l, copied(x))
	}
	return api.Value{Kind: v.Kind, N: v.N, S: strings.Clone(v.S), L: l}
}

func copiedType(t api.Type) api.Type {
	l := make([]api.Type, 0, len(t.L))
	for _, x := range t.L {
		l = append(l, copiedType(x))
	}
	return api.Type{Kind: t.Kind, L: l}
}

// spoil changes all memory of a value that can be changed.
func spoil(v api.Value) {
	for i := range v.L {
		spoil(v.L[i])
		v.L[i] = api.Value{Kind: -1, N: 1 << 40, S: "\x00"}
	}
}

func spoilType(t api.Type) {
	for i := range t.L {
		spoilType(t.L[i])
		t.L[i] = api.Type{Kind: -1}
	}
}

// tower returns n values one within the other, towerType n types.
func tower(n int) api.Value {
	v := num(1)
	for i := range n - 1 {
		if i%2 == 0 {
			v = tuple(v)
		} else {
			v = tag(7, v)
		}
	}
	return v
}

func towerType(n int) api.Type {
	t := whole
	for i := range n - 1 {
		t = kind(api.TypeTuple+i%2, t)
	}
	return t
}

// row returns a tuple of n words, rowType one of n types.
func row(n int) api.Value { return tuple(make([]api.Value, n)...) }

func rowType(n int) api.Type { return kind(api.TypeTuple, make([]api.Type, n)...) }

// itself returns a tuple whose only part is this tuple, itselfType the same of types.
func itself() api.Value {
	l := make([]api.Value, 1)
	l[0] = tuple(l...)
	return l[0]
}

func itselfType(k int) api.Type {
	l := make([]api.Type, api.Wide)
	for i := range l {
		l[i] = kind(k, l...)
	}
	return l[0]
}

// someType returns a type, mostly a small one; it may have too many types in it.
func someType(r *rand.Rand, deep int) api.Type {
	if deep == api.TypeDeep || r.IntN(3) == 0 {
		return kind(r.IntN(2))
	}
	k := api.TypeTuple + r.IntN(2)
	l := make([]api.Type, r.IntN(4)+k-api.TypeTuple)
	for i := range l {
		l[i] = someType(r, deep+1)
	}
	return kind(k, l...)
}

// of returns a value of a valid type. It has few words and texts, so that two of them are often the same.
func of(r *rand.Rand, t api.Type) api.Value {
	words := []int{api.WordLow, -256, -1, 0, 0, 1, 255, 256, api.WordHigh}
	texts := []string{"", "", " ", "!", "a", "aa", "ab", "\\", "\"", "~", "a\"\\", ")", ", "}
	switch t.Kind {
	case api.TypeInt:
		return num(words[r.IntN(len(words))])
	case api.TypeText:
		return text(texts[r.IntN(len(texts))])
	case api.TypeSum:
		n := r.IntN(len(t.L))
		return tag(n, of(r, t.L[n]))
	}
	l := make([]api.Value, len(t.L))
	for i := range l {
		l[i] = of(r, t.L[i])
	}
	return tuple(l...)
}

// someTypes returns n valid types, the same ones each time.
func someTypes(n int) []api.Type {
	r := rand.New(rand.NewPCG(1, 2))
	l := []api.Type{whole, letters, none, typed}
	for len(l) < n {
		if t := someType(r, 1); value.Type(t) == api.OK {
			l = append(l, t)
		}
	}
	return l
}

// someValues returns n valid values, the same ones each time; many are of one type, and some are there several times.
func someValues(n int) []api.Value {
	r := rand.New(rand.NewPCG(3, 4))
	l := []api.Value{sample}
	for _, t := range someTypes(n/3 + 1) {
		for range 3 {
			l = append(l, of(r, t))
		}
	}
	return l[:n]
}

// textOf and keyOf write a value that must be valid.
func textOf(t *testing.T, v api.Value) string {
	t.Helper()
	s, e := value.Text(v)
	if e != api.OK {
		t.Fatalf("Text of %v: %d", v, e)
	}
	return s
}

func keyOf(t *testing.T, v api.Value) string {
	t.Helper()
	s, e := value.Key(v)
	if e != api.OK {
		t.Fatalf("Key of %v: %d", v, e)
	}
	return s
}
