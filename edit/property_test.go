package edit_test

import (
	"slices"
	"sync"
	"testing"

	"deltaworks/api"
	"deltaworks/edit"
)

func TestDistance(t *testing.T) { // P3.9
	r := someRand()
	apart := func(a, b []api.Value) int { return must(edit.Cost(must(edit.Diff(a, b))(t)))(t) }
	for range 500 {
		few := 1 + r.IntN(5)
		a, b, c := someList(r, few, 12), someList(r, few, 12), someList(r, few, 12)
		if apart(a, a) != 0 || (apart(a, b) == 0) != same(a, b) || apart(a, b) != apart(b, a) || apart(a, c) > apart(a, b)+apart(b, c) {
			t.Fatalf("%v, %v, %v: no distance", a, b, c)
		}
	}
}

func TestNoneCostsLess(t *testing.T) { // P3.9
	runs(func(was tokens, e, _, _ pieced) {
		made := must(edit.Apply(e, was.values()))(t)
		least := must(edit.Diff(was.values(), made))(t)
		if must(edit.Cost(least))(t) > must(edit.Cost(e))(t) {
			t.Fatalf("%v costs more than %v", least, e)
		}
	})
}

func TestOneBehindTheOther(t *testing.T) { // P3.10
	r := someRand()
	runs(func(was tokens, e, _, f pieced) {
		l := was.values()
		made := must(edit.Apply(e, l))(t)
		end := must(edit.Apply(f, made))(t)
		both := must(edit.Compose(e, f))(t)
		back, back2 := must(edit.Invert(e))(t), must(edit.Invert(f))(t)
		if !same(must(edit.Apply(both, l))(t), end) || !same(must(edit.Apply(back, made))(t), l) {
			t.Fatalf("%v, then %v: they lead elsewhere", e, f)
		}
		if !alike(must(edit.Invert(both))(t), must(edit.Compose(back2, back))(t)) || !alike(must(edit.Invert(back))(t), e) {
			t.Fatalf("%v, then %v: turned back", e, f)
		}
		g := someEdit(r, end, 3)
		late := must(edit.Compose(f, g))(t)
		if !alike(must(edit.Compose(both, g))(t), must(edit.Compose(e, late))(t)) {
			t.Fatalf("%v, %v, %v: how they are put together makes a difference", e, f, g)
		}
		stay, stay2 := must(edit.Diff(l, l))(t), must(edit.Diff(made, made))(t)
		if !alike(must(edit.Compose(stay, e))(t), e) || !alike(must(edit.Compose(e, stay2))(t), e) {
			t.Fatalf("%v: with nothing that is changed", e)
		}
	})
}

func TestPutTogetherOrNot(t *testing.T) { // P3.10: also of edits that cannot be put together
	r := someRand()
	for range 5000 {
		e, f, g := someEdit(r, someList(r, 2, 3), 1), someEdit(r, someList(r, 2, 3), 1), someEdit(r, someList(r, 2, 3), 1)
		var left, right pieced
		early, err := edit.Compose(e, f)
		if err == api.OK {
			left, err = edit.Compose(early, g)
		}
		late, err2 := edit.Compose(f, g)
		if err2 == api.OK {
			right, err2 = edit.Compose(e, late)
		}
		if err != err2 || !alike(left, right) {
			t.Fatalf("%v, %v, %v: %v, %d; %v, %d", e, f, g, left, err, right, err2)
		}
	}
}

func TestBothWaysLeadToTheSame(t *testing.T) { // P3.11
	runs(func(was tokens, e, f, _ pieced) {
		second, first, err := edit.Cross(e, f)
		if err != api.OK {
			t.Fatalf("Cross of %v and %v: %d", e, f, err)
		}
		one, other := must(edit.Compose(e, second))(t), must(edit.Compose(f, first))(t)
		if !alike(one, other) {
			t.Fatalf("%v and %v: %v by the one, %v by the other", e, f, one, other)
		}
		made := must(edit.Apply(e, was.values()))(t)
		if !same(must(edit.Apply(second, made))(t), must(edit.Apply(one, was.values()))(t)) {
			t.Fatalf("%v and %v: another list", e, f)
		}
	})
}

// outcomes calls all functions with two edits of a list, and with two lists.
func outcomes(e, f pieced, a, b []api.Value) map[string]outcome {
	applied, err := edit.Apply(e, a)
	s, err2 := edit.OfChars(a)
	chars, err3 := edit.Chars("some text")
	m := map[string]outcome{"Diff": one(edit.Diff(a, b)), "Apply of it": {list: applied, e: err}, "OfChars": {s: s, e: err2}, "Chars": {list: chars, e: err3}}
	for name, call := range ofEdit() {
		m[name] = call(e)
	}
	for name, call := range ofEdits() {
		m[name] = call(e, f)
	}
	return m
}

// equal reports whether two calls returned the same.
func (o outcome) equal(p outcome) bool {
	return slices.EqualFunc(o.edits, p.edits, alike) && same(o.list, p.list) && o.s == p.s && o.n == p.n && o.e == p.e
}

// memory is the places of all lists that were seen.
type memory map[any]bool

func partsOf(v api.Value) []api.Value { return v.L }

func listOf(p api.EditPiece) []api.Value { return p.L }

// isNew adds the memory of a list, with what is in it, and behind its end, and reports whether none of it was seen.
func isNew[T any](seen memory, l []T, within func(T) []api.Value) bool {
	fresh := true
	for i := range l[:cap(l)] {
		p := &l[:cap(l)][i]
		fresh = fresh && !seen[p] && (i >= len(l) || isNew(seen, within(*p), partsOf))
		seen[p] = true
	}
	return fresh
}

// spoil changes all memory of a list that can be changed, with what is in it, and behind its end.
func spoil[T any](l []T, bad T, within func(T) []api.Value) {
	for i := range l[:cap(l)] {
		if i < len(l) {
			spoil(within(l[i]), api.Value{Kind: -1, N: 1 << 40, S: "\x00"}, partsOf)
		}
		l[:cap(l)][i] = bad
	}
}

func TestMemory(t *testing.T) { // P3.8, R4, W11
	r := someRand()
	for range 200 {
		l := someList(r, 15, 9)
		e, f, a, b := copiedEdit(someEdit(r, l, 3)), copiedEdit(someEdit(r, l, 3)), copiedList(l), copiedList(someList(r, 15, 9))
		e2, f2, a2, b2 := copiedEdit(e), copiedEdit(f), copiedList(a), copiedList(b)
		seen := memory{}
		if !isNew(seen, e, listOf) || !isNew(seen, f, listOf) || !isNew(seen, a, partsOf) || !isNew(seen, b, partsOf) {
			t.Fatalf("the arguments share memory")
		}
		results := outcomes(e, f, a, b)
		if !alike(e, e2) || !alike(f, f2) || !same(a, a2) || !same(b, b2) {
			t.Fatalf("arguments became %v, %v, %v, %v", e, f, a, b)
		}
		for name, o := range results {
			fresh := isNew(seen, o.list, partsOf)
			for _, x := range o.edits {
				fresh = isNew(seen, x, listOf) && fresh
			}
			if !fresh {
				t.Fatalf("%s of %v, %v, %v and %v shares memory", name, e, f, a, b)
			}
		}
		for _, x := range []pieced{e, f} {
			spoil(x, api.EditPiece{Kind: -1, N: 77}, listOf)
		}
		for _, l := range [][]api.Value{a, b} {
			spoil(l, api.Value{Kind: -1}, partsOf)
		}
		for name, o := range outcomes(e2, f2, a2, b2) {
			if !o.equal(results[name]) {
				t.Fatalf("%s of %v, %v, %v and %v: %v, and again %v", name, e2, f2, a2, b2, results[name], o)
			}
		}
	}
}

func TestCallsSideBySide(t *testing.T) { // W11: nothing is kept from call to call, and arguments are only read
	r := someRand()
	a, b := someList(r, 15, 12), someList(r, 15, 12)
	e, f := someEdit(r, a, 3), someEdit(r, a, 3)
	want := outcomes(e, f, a, b)
	wrong := make([]bool, 8)
	var all sync.WaitGroup
	for i := range wrong {
		all.Go(func() {
			for range 50 {
				for name, o := range outcomes(e, f, a, b) {
					wrong[i] = wrong[i] || !o.equal(want[name])
				}
			}
		})
	}
	all.Wait()
	if slices.Contains(wrong, true) {
		t.Errorf("other results side by side")
	}
}
