package edit_test

import (
	"math/rand/v2"
	"testing"

	"deltaworks/api"
	"deltaworks/edit"
)

// token is a value of a list that is told from all others, the same ones too: of the list from which one begins, or of what an edit puts.
type token struct {
	id int
	v  api.Value
}

// tokens are a list whose values can be told apart.
type tokens []token

// fresh returns a list as tokens with numbers from one on.
func fresh(l []api.Value, from int) tokens {
	t := make(tokens, len(l))
	for i, v := range l {
		t[i] = token{from + i, v}
	}
	return t
}

func (t tokens) values() (l []api.Value) {
	for _, x := range t {
		l = append(l, x.v)
	}
	return l
}

func (t tokens) has(x token) bool {
	for _, y := range t {
		if x.id == y.id {
			return true
		}
	}
	return false
}

// edited returns what an edit makes of a list, by the definition of its pieces alone; what it puts has numbers from one on.
func (t tokens) edited(e pieced, from int) tokens {
	var made tokens
	for _, p := range e {
		switch p.Kind {
		case api.EditKeep:
			made = append(made, t[:p.N]...)
			t = t[p.N:]
		case api.EditDrop:
			t = t[len(p.L):]
		case api.EditPut:
			made = append(made, fresh(p.L, from)...)
			from += len(p.L)
		}
	}
	return made
}

// between returns the edit that leads from one list to another one, and keeps what is in both.
func between(from, to tokens) (e pieced) {
	for {
		n, m := 0, 0
		for n < len(from) && !to.has(from[n]) {
			n++
		}
		for m < len(to) && !from.has(to[m]) {
			m++
		}
		e = joined(e, drop(from[:n].values()...))
		e = joined(e, put(to[:m].values()...))
		from, to = from[n:], to[m:]
		if len(from) == 0 {
			return e
		}
		e = joined(e, keep(1))
		from, to = from[1:], to[1:]
	}
}

// met returns the list to which two edits of one list both lead, of what each of them made.
func met(was, one, other tokens) (both tokens) {
	var a, b tokens
	gap := func() {
		both = append(append(both, a...), b...)
		a, b = nil, nil
	}
	for _, x := range one {
		switch {
		case !was.has(x):
			a = append(a, x)
		case other.has(x):
			for len(other) > 0 && other[0].id != x.id {
				if !was.has(other[0]) {
					b = append(b, other[0])
				}
				other = other[1:]
			}
			gap()
			both, other = append(both, x), other[1:]
		}
	}
	for _, x := range other {
		if !was.has(x) {
			b = append(b, x)
		}
	}
	gap()
	return both
}

// runs calls check with many lists, as tokens, and with two edits of each, and one of what the first edit makes.
func runs(check func(was tokens, e, f, then pieced)) {
	r := someRand()
	for range 3000 {
		l := someList(r, 1+r.IntN(15), 9)
		was := fresh(l, 0)
		e, f := someEdit(r, l, 3), someEdit(r, l, 3)
		then := someEdit(r, was.edited(e, 100).values(), 3)
		check(was, e, f, then)
	}
}

func TestAsTold(t *testing.T) { // P3.1, P3.3 to P3.6
	runs(func(was tokens, e, f, then pieced) {
		one, other := was.edited(e, 100), was.edited(f, 200)
		if l, err := edit.Apply(e, was.values()); !same(l, one.values()) || err != api.OK || edit.Check(e) != api.OK {
			t.Fatalf("Apply of %v: %v, %d", e, l, err)
		}
		if x, err := edit.Invert(e); !alike(x, between(one, was)) || err != api.OK {
			t.Fatalf("Invert of %v: %v, %d", e, x, err)
		}
		if x, err := edit.Compose(e, then); !alike(x, between(was, one.edited(then, 300))) || err != api.OK {
			t.Fatalf("Compose of %v and %v: %v, %d", e, then, x, err)
		}
		both := met(was, one, other)
		second, first, err := edit.Cross(e, f)
		if !alike(second, between(one, both)) || !alike(first, between(other, both)) || err != api.OK {
			t.Fatalf("Cross of %v and %v: %v, %v, %d", e, f, second, first, err)
		}
	})
}

// sizes returns of how long lists an edit is, and how long the lists are that it makes.
func sizes(e pieced) (of, makes int) {
	for _, p := range e {
		of, makes = of+p.N, makes+p.N
		switch p.Kind {
		case api.EditDrop:
			of += len(p.L)
		case api.EditPut:
			makes += len(p.L)
		}
	}
	return of, makes
}

func TestOtherLists(t *testing.T) { // P3.3, P3.5, P3.6: where lists have not as many values, or others are dropped
	r := someRand()
	for range 5000 {
		l := someList(r, 2, 4)
		e, f := someEdit(r, someList(r, 2, 4), 1), someEdit(r, someList(r, 2, 4), 1)
		x, err := edit.Apply(e, l)
		if fits := applies(e, l); fits != (err == api.OK) || !fits && (err != api.ErrState || len(x) > 0) {
			t.Fatalf("Apply of %v to %v: %v, %d", e, l, x, err)
		}
		of, makes := sizes(e)
		of2, _ := sizes(f)
		made := fresh(make([]api.Value, of), 0).edited(e, 100)
		fits := makes == of2 && dropsOf(made, f, func(x token, v api.Value) bool { return x.id < 100 || sameValue(x.v, v) })
		if c, err := edit.Compose(e, f); fits != (err == api.OK) || !fits && (err != api.ErrState || len(c) > 0) {
			t.Fatalf("Compose of %v and %v: %v, %d", e, f, c, err)
		}
		known := map[int]api.Value{}
		dropsOf(fresh(make([]api.Value, of), 0), e, func(x token, v api.Value) bool { known[x.id] = v; return true })
		fits = of == of2 && dropsOf(fresh(make([]api.Value, of), 0), f, func(x token, v api.Value) bool {
			w, found := known[x.id]
			return !found || sameValue(v, w)
		})
		if s, p, err := edit.Cross(e, f); fits != (err == api.OK) || !fits && (err != api.ErrState || len(s)+len(p) > 0) {
			t.Fatalf("Cross of %v and %v: %v, %v, %d", e, f, s, p, err)
		}
	}
}

// applies reports whether an edit is one of a list.
func applies(e pieced, l []api.Value) bool {
	of, _ := sizes(e)
	return of == len(l) && dropsOf(fresh(l, 0), e, func(x token, v api.Value) bool { return sameValue(x.v, v) })
}

// dropsOf reports whether good holds of all values that an edit drops of a list, and of what stands there.
func dropsOf(t tokens, e pieced, good func(token, api.Value) bool) bool {
	for _, p := range e {
		switch p.Kind {
		case api.EditKeep:
			t = t[p.N:]
		case api.EditDrop:
			for i, v := range p.L {
				if !good(t[i], v) {
					return false
				}
			}
			t = t[len(p.L):]
		}
	}
	return true
}

// fewest returns how many values are dropped and put, at the least, to make b of a: all ways are gone.
func fewest(a, b []api.Value) int {
	if len(a) == 0 || len(b) == 0 {
		return len(a) + len(b)
	}
	n := 1 + min(fewest(a[1:], b), fewest(a, b[1:]))
	if sameValue(a[0], b[0]) {
		n = min(n, fewest(a[1:], b[1:]))
	}
	return n
}

// leastOf returns the least edit as the chapter says it.
func leastOf(a, b []api.Value) (e pieced) {
	var dropped, added []api.Value
	gap := func() {
		e = joined(e, drop(dropped...))
		e = joined(e, put(added...))
		dropped, added = nil, nil
	}
	for len(a) > 0 && len(b) > 0 {
		switch {
		case sameValue(a[0], b[0]):
			gap()
			e = joined(e, keep(1))
			a, b = a[1:], b[1:]
		case 1+fewest(a[1:], b) == fewest(a, b):
			dropped, a = append(dropped, a[0]), a[1:]
		default:
			added, b = append(added, b[0]), b[1:]
		}
	}
	dropped, added = append(dropped, a...), append(added, b...)
	gap()
	return e
}

// listPairs calls check with all pairs of short lists of two values, and with some of longer ones.
func listPairs(r *rand.Rand, check func(a, b []api.Value)) {
	var short [][]api.Value
	for n := range 5 {
		for bits := range 1 << n {
			l := make([]api.Value, n)
			for i := range l {
				l[i] = num(bits >> i & 1)
			}
			short = append(short, l)
		}
	}
	for _, a := range short {
		for _, b := range short {
			check(a, b)
		}
	}
	for range 300 {
		few := 1 + r.IntN(6)
		check(someList(r, few, 7), someList(r, few, 7))
	}
}

func TestTheLeast(t *testing.T) { // P3.2, P3.9
	listPairs(someRand(), func(a, b []api.Value) {
		e, err := edit.Diff(a, b)
		if !alike(e, leastOf(a, b)) || err != api.OK {
			t.Fatalf("Diff of %v and %v: %v, %d", a, b, e, err)
		}
		if n, err := edit.Cost(e); n != fewest(a, b) || err != api.OK {
			t.Fatalf("Cost of %v: %d, %d", e, n, err)
		}
		if l, err := edit.Apply(e, a); !same(l, b) || err != api.OK {
			t.Fatalf("Apply of %v to %v: %v, %d", e, a, l, err)
		}
	})
}
