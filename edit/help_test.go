package edit_test

import (
	"math/rand/v2"
	"slices"
	"strconv"
	"strings"
	"testing"

	"deltaworks/api"
)

// num, text and tuple return values.
func num(n int) api.Value            { return api.Value{N: n} }
func text(s string) api.Value        { return api.Value{Kind: api.ValueText, S: s} }
func tuple(l ...api.Value) api.Value { return api.Value{Kind: api.ValueTuple, L: l} }

func tag(n int, v api.Value) api.Value {
	return api.Value{Kind: api.ValueTag, N: n, L: []api.Value{v}}
}

// list returns the bytes of a text as words, many one word n times.
func list(s string) (l []api.Value) {
	for i := range len(s) {
		l = append(l, num(int(s[i])))
	}
	return l
}

func many(n int, c string) []api.Value { return list(strings.Repeat(c, n)) }

// keep, drop and put return pieces, edit a list of them.
func keep(n int) api.EditPiece             { return api.EditPiece{Kind: api.EditKeep, N: n} }
func drop(l ...api.Value) api.EditPiece    { return api.EditPiece{Kind: api.EditDrop, L: l} }
func put(l ...api.Value) api.EditPiece     { return api.EditPiece{Kind: api.EditPut, L: l} }
func pieces(l ...api.EditPiece) (e pieced) { return l }

type pieced = []api.EditPiece

// told returns the edit that the chapter tells so: =1 -b +xy.
func told(s string) (e pieced) {
	for _, p := range strings.Fields(s) {
		switch p[0] {
		case '=':
			n, _ := strconv.Atoi(p[1:])
			e = append(e, keep(n))
		case '-':
			e = append(e, drop(list(p[1:])...))
		case '+':
			e = append(e, put(list(p[1:])...))
		}
	}
	return e
}

// sameValue, same and alike compare what is there, so that nil and empty lists are the same.
func sameValue(a, b api.Value) bool {
	return a.Kind == b.Kind && a.N == b.N && a.S == b.S && same(a.L, b.L)
}

func same(a, b []api.Value) bool { return slices.EqualFunc(a, b, sameValue) }

func alike(e, f pieced) bool {
	return slices.EqualFunc(e, f, func(p, q api.EditPiece) bool { return p.Kind == q.Kind && p.N == q.N && same(p.L, q.L) })
}

// badValues lists values that are not valid.
func badValues() []api.Value {
	six := num(1)
	for range 6 {
		six = tuple(six)
	}
	itself := make([]api.Value, 1)
	itself[0] = tuple(itself...)
	return []api.Value{num(1 << 40), num(api.WordLow - 1), {S: "a"}, {L: list("a")}, {Kind: 4}, {Kind: -1}, text("\n"), text(strings.Repeat("a", 101)), tag(8, num(1)), {Kind: api.ValueTag}, tuple(list("123456789")...), six, itself[0]}
}

// values lists values of all kinds; those that are of few bytes differ little.
func values() []api.Value {
	return []api.Value{num(0), num(1), num(-1), num(api.WordLow), num(api.WordHigh), text(""), text("1"), text("a"), tuple(), tuple(num(1)), tuple(num(1), text("a")), tuple(tuple(), tuple(num(1))), tag(0, num(1)), tag(1, num(1)), tag(7, tag(0, tuple(text("\"\\"))))}
}

// someRand returns numbers that are the same ones each time.
func someRand() *rand.Rand { return rand.New(rand.NewPCG(7, 8)) }

// someList returns up to most values out of the first few of all.
func someList(r *rand.Rand, few, most int) []api.Value {
	l := make([]api.Value, r.IntN(most+1))
	for i := range l {
		l[i] = values()[r.IntN(few)]
	}
	return l
}

// joined returns an edit with a piece behind it, if there is something in this.
func joined(e pieced, p api.EditPiece) pieced {
	last := len(e) - 1
	switch {
	case p.N+len(p.L) == 0:
		return e
	case last >= 0 && p.Kind == api.EditKeep && e[last].Kind == api.EditKeep:
		e[last].N += p.N
		return e
	}
	return append(e, p)
}

// someEdit returns an edit of a list: it drops some of it, and puts up to most values ahead of each one that it keeps, and at the end.
func someEdit(r *rand.Rand, a []api.Value, most int) (e pieced) {
	var dropped []api.Value
	gap := func() {
		e = joined(e, drop(dropped...))
		e = joined(e, put(someList(r, len(values()), r.IntN(most+1))...))
		dropped = nil
	}
	for _, v := range a {
		if r.IntN(3) == 0 {
			dropped = append(dropped, copied(v))
			continue
		}
		gap()
		e = joined(e, keep(1))
	}
	gap()
	return e
}

// copied, copiedList and copiedEdit return all of their argument in new memory, with room behind each list.
func copied(v api.Value) api.Value {
	return api.Value{Kind: v.Kind, N: v.N, S: strings.Clone(v.S), L: copiedList(v.L)}
}

func copiedList(l []api.Value) []api.Value {
	c := make([]api.Value, 0, len(l)+2)
	for _, v := range l {
		c = append(c, copied(v))
	}
	return c
}

func copiedEdit(e pieced) pieced {
	c := make(pieced, 0, len(e)+2)
	for _, p := range e {
		c = append(c, api.EditPiece{Kind: p.Kind, N: p.N, L: copiedList(p.L)})
	}
	return c
}

// must returns what a call returns, which must be without an error.
func must[T any](x T, e api.Errno) func(t *testing.T) T {
	return func(t *testing.T) T {
		t.Helper()
		if e != api.OK {
			t.Fatalf("error %d", e)
		}
		return x
	}
}
