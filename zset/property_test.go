package zset_test

import (
	"slices"
	"sync"
	"testing"

	"deltaworks/api"
	"deltaworks/value"
	"deltaworks/zset"
)

// add, neg and pair are the functions without their errors.
func add(t *testing.T, l ...api.Zset) api.Zset {
	t.Helper()
	z := api.Zset(nil)
	for _, x := range l {
		z = must(zset.Add(z, x))(t)
	}
	return z
}

func neg(t *testing.T, z api.Zset) api.Zset {
	t.Helper()
	return must(zset.Neg(z))(t)
}

func pair(t *testing.T, a, b api.Zset) api.Zset {
	t.Helper()
	return must(zset.Pair(a, b))(t)
}

func TestAsCounted(t *testing.T) { // P2.1 to P2.5, P2.10
	r := someRand()
	for range 400 {
		k, l := someItems(r), someItems(r)
		a, b := must(zset.Make(k))(t), must(zset.Make(l))(t)
		both := modelOf(append(copiedList(k), l...))
		if !modelOf(k).is(a) || !both.is(add(t, a, b)) || zset.Check(a) != api.OK {
			t.Fatalf("%v and %v are counted otherwise", k, l)
		}
		if !both.is(must(zset.Sum([]api.Zset{a, b}))(t)) || !both.is(must(zset.Make(append(copiedList(l), k...)))(t)) {
			t.Fatalf("the sum of %v and %v is another one", k, l)
		}
		total, apart := 0, 0
		m, n := modelOf(a), modelOf(b)
		for _, row := range rows() {
			s, _ := value.Text(row)
			if c, e := zset.Count(a, row); c != m[s] || e != api.OK {
				t.Fatalf("Count of %v, %v: %d, %d", a, row, c, e)
			}
			total += m[s]
			if m[s] != n[s] {
				apart++
			}
		}
		if x, e := zset.Total(a); x != total || e != api.OK {
			t.Fatalf("Total of %v: %d, %d", a, x, e)
		}
		if x, e := zset.Apart(a, b); x != apart || e != api.OK {
			t.Fatalf("Apart of %v and %v: %d, %d", a, b, x, e)
		}
	}
}

func TestRangesAreCut(t *testing.T) { // P2.10
	r := someRand()
	ends := rows()
	for range 20 {
		z := someZset(t, r)
		for i, low := range ends {
			for k, high := range ends {
				var want api.Zset
				for _, x := range z {
					at := slices.IndexFunc(ends, func(v api.Value) bool { return sameValue(v, x.Row) })
					if at >= i && at < k {
						want = append(want, x)
					}
				}
				if y, e := zset.Range(z, low, high); !same(y, want) || e != api.OK {
					t.Fatalf("Range of %v from %v to %v: %v, %d", z, low, high, y, e)
				}
			}
		}
	}
}

func TestGroup(t *testing.T) { // P2.12
	r := someRand()
	factors := []int{0, 1, 2, 3, -1, -2, 7, lowest, highest, 1 << 32}
	for range 150 {
		a, b, c := someZset(t, r), someZset(t, r), someZset(t, r)
		if !same(add(t, a, b), add(t, b, a)) || !same(add(t, add(t, a, b), c), add(t, a, add(t, b, c))) {
			t.Fatalf("%v, %v, %v: the order makes a difference", a, b, c)
		}
		if !same(must(zset.Sum([]api.Zset{a, b, c}))(t), add(t, c, a, b)) || !same(must(zset.Sum([]api.Zset{c, b, a}))(t), add(t, a, b, c)) {
			t.Fatalf("%v, %v, %v: Sum is not what Add makes", a, b, c)
		}
		if !same(add(t, a, nil), a) || !same(add(t, nil, a), a) || len(add(t, a, neg(t, a))) > 0 || !same(neg(t, neg(t, a)), a) {
			t.Fatalf("%v: nothing, or less, is something else", a)
		}
		if !same(neg(t, add(t, a, b)), add(t, neg(t, a), neg(t, b))) {
			t.Fatalf("%v, %v: Neg of the sum", a, b)
		}
		for _, n := range factors {
			x := must(zset.Scale(a, n))(t)
			for _, m := range factors {
				if !same(must(zset.Scale(a, n+m))(t), add(t, x, must(zset.Scale(a, m))(t))) {
					t.Fatalf("%v: Scale by the sum of %d and %d", a, n, m)
				}
			}
			if !same(must(zset.Scale(add(t, a, b), n))(t), add(t, x, must(zset.Scale(b, n))(t))) {
				t.Fatalf("%v, %v: Scale of the sum by %d", a, b, n)
			}
		}
		if !same(must(zset.Scale(a, 3))(t), add(t, a, a, a)) || !same(must(zset.Scale(a, -2))(t), neg(t, add(t, a, a))) || !same(must(zset.Scale(a, 1))(t), a) || len(must(zset.Scale(a, 0))(t)) > 0 {
			t.Fatalf("%v: Scale is not counted out", a)
		}
	}
}

func TestPairsAreCounted(t *testing.T) { // P2.9, P2.13
	r := someRand()
	for range 60 {
		a, b, c := someZset(t, r), someZset(t, r), someZset(t, r)
		if !same(pair(t, add(t, a, b), c), add(t, pair(t, a, c), pair(t, b, c))) {
			t.Fatalf("%v, %v, %v: pairs of the sum, and the third", a, b, c)
		}
		if !same(pair(t, c, add(t, a, b)), add(t, pair(t, c, a), pair(t, c, b))) {
			t.Fatalf("%v, %v, %v: pairs of the third, and the sum", a, b, c)
		}
		var all []api.Item
		for _, x := range a {
			for _, y := range b {
				all = append(all, of(tuple(x.Row, y.Row), x.N*y.N))
			}
		}
		if !modelOf(all).is(pair(t, a, b)) {
			t.Fatalf("the pairs of %v and %v", a, b)
		}
	}
}

func TestOnceAndSplit(t *testing.T) { // P2.7, P2.14
	r := someRand()
	for range 300 {
		z := someZset(t, r)
		more, less, e := zset.Split(z)
		once := must(zset.Once(z))(t)
		if e != api.OK || !same(add(t, more, neg(t, less)), z) || len(more)+len(less) != len(z) {
			t.Fatalf("Split of %v: %v, %v, %d", z, more, less, e)
		}
		if !same(must(zset.Once(once))(t), once) || len(once) != len(more) {
			t.Fatalf("Once of %v: %v", z, once)
		}
		for i, x := range more {
			if x.N <= 0 || !sameValue(x.Row, once[i].Row) || once[i].N != 1 {
				t.Fatalf("Split and Once of %v: %v, %v", z, more, once)
			}
		}
	}
}

func TestFlips(t *testing.T) { // P2.8, P2.14
	r := someRand()
	for range 300 {
		z, a, b := someZset(t, r), someZset(t, r), someZset(t, r)
		flips := must(zset.Flips(z, a))(t)
		then := must(zset.Flips(add(t, z, a), b))(t)
		if !same(add(t, must(zset.Once(z))(t), flips), must(zset.Once(add(t, z, a)))(t)) {
			t.Fatalf("Flips of %v and %v: %v", z, a, flips)
		}
		if !same(add(t, flips, then), must(zset.Flips(z, add(t, a, b)))(t)) {
			t.Fatalf("Flips of %v and %v, and then %v", z, a, b)
		}
		for _, x := range flips {
			if n, _ := zset.Count(a, x.Row); x.N != 1 && x.N != -1 || n == 0 {
				t.Fatalf("Flips of %v and %v: %v", z, a, flips)
			}
		}
	}
}

func TestDistance(t *testing.T) { // P2.10, P2.15
	r := someRand()
	apart := func(a, b api.Zset) int { return must(zset.Apart(a, b))(t) }
	for range 300 {
		a, b, c := someZset(t, r), someZset(t, r), someZset(t, r)
		if apart(a, a) != 0 || (apart(a, b) == 0) != same(a, b) || apart(a, b) != apart(b, a) || apart(a, c) > apart(a, b)+apart(b, c) {
			t.Fatalf("%v, %v, %v: no distance", a, b, c)
		}
		if apart(a, b) != len(add(t, a, neg(t, b))) {
			t.Fatalf("Apart of %v and %v", a, b)
		}
	}
}

// allOutcomes calls all functions with two collections.
func allOutcomes(a, b api.Zset) map[string]outcome {
	l := map[string]outcome{"Make": one(zset.Make(append(slices.Clone(b), a...)))}
	for name, call := range ofOne() {
		l[name] = call(a)
	}
	for name, call := range ofTwo() {
		l[name+" of two"] = call(a, b)
	}
	return l
}

// standsIn reports whether a list of a result stands in memory that was seen, and adds its memory to it.
func standsIn(seen map[any]bool, z api.Zset) bool {
	var walk func(l []api.Value) bool
	walk = func(l []api.Value) bool {
		for i := range l[:cap(l)] {
			p := &l[:cap(l)][i]
			if seen[p] || i < len(l) && walk(p.L) {
				return true
			}
			seen[p] = true
		}
		return false
	}
	for i := range z[:cap(z)] {
		p := &z[:cap(z)][i]
		if seen[p] || walk(p.Row.L) {
			return true
		}
		seen[p] = true
	}
	return false
}

func TestMemory(t *testing.T) { // P2.11, R4, W11
	r := someRand()
	for range 100 {
		a, b := api.Zset(copiedList(someZset(t, r))), api.Zset(copiedList(someZset(t, r)))
		was, other := copiedList(a), copiedList(b)
		seen := map[any]bool{}
		standsIn(seen, a)
		standsIn(seen, b)
		results := allOutcomes(a, b)
		if !same(a, was) || !same(b, other) {
			t.Fatalf("arguments became %v and %v", a, b)
		}
		want := map[string][]api.Zset{}
		for name, o := range results {
			for _, z := range o.zs {
				want[name] = append(want[name], copiedList(z))
				if standsIn(seen, z) {
					t.Fatalf("%s of %v and %v shares memory", name, a, b)
				}
			}
		}
		spoilList(a)
		spoilList(b)
		again := allOutcomes(was, other)
		for name, o := range results {
			for i, z := range o.zs {
				if !same(z, want[name][i]) || !same(again[name].zs[i], z) {
					t.Fatalf("%s of %v and %v: another result behind a change of its arguments", name, was, other)
				}
				spoilList(z)
			}
			if again[name].n != o.n || again[name].e != o.e {
				t.Fatalf("%s of %v and %v: %d, %d, and again %d, %d", name, was, other, o.n, o.e, again[name].n, again[name].e)
			}
		}
	}
}

func TestTypesAndRowsStay(t *testing.T) { // P2.11
	u := api.Type{Kind: api.TypeTuple, L: []api.Type{{}, {Kind: api.TypeText}}}
	row := tuple(num(3), text("x"))
	z := api.Zset{of(row, 4)}
	zset.Typed(z, u)
	zset.Count(z, row)
	zset.Range(z, row, row)
	if u.Kind != api.TypeTuple || len(u.L) != 2 || u.L[0].Kind != api.TypeInt || u.L[1].Kind != api.TypeText || !sameValue(row, tuple(num(3), text("x"))) {
		t.Errorf("%v, %v", u, row)
	}
}

func TestCallsSideBySide(t *testing.T) { // W11: nothing is kept from call to call, and arguments are only read
	r := someRand()
	a, b := someZset(t, r), someZset(t, r)
	want := allOutcomes(a, b)
	wrong := make([]bool, 8)
	var all sync.WaitGroup
	for i := range wrong {
		all.Go(func() {
			for range 20 {
				for name, o := range allOutcomes(a, b) {
					if o.n != want[name].n || o.e != want[name].e || !slices.EqualFunc(o.zs, want[name].zs, func(x, y api.Zset) bool { return same(x, y) }) {
						wrong[i] = true
					}
				}
			}
		})
	}
	all.Wait()
	if slices.Contains(wrong, true) {
		t.Errorf("other results side by side")
	}
}
