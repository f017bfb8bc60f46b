package value_test

import (
	"cmp"
	"slices"
	"strings"
	"sync"
	"testing"

	"deltaworks/api"
	"deltaworks/value"
)

// ahead is the order of values as the chapter says it, kind by kind.
func ahead(a, b api.Value) int {
	switch {
	case a.Kind != b.Kind:
		return cmp.Compare(a.Kind, b.Kind)
	case a.Kind == api.ValueInt:
		return cmp.Compare(a.N, b.N)
	case a.Kind == api.ValueText:
		return cmp.Compare(a.S, b.S)
	case a.Kind == api.ValueTag && a.N != b.N:
		return cmp.Compare(a.N, b.N)
	}
	for i := range min(len(a.L), len(b.L)) {
		if n := ahead(a.L[i], b.L[i]); n != 0 {
			return n
		}
	}
	return cmp.Compare(len(a.L), len(b.L))
}

func TestOneOrder(t *testing.T) { // P1.3, P1.8
	l := someValues(150)
	order := map[[2]int]int{}
	for i, a := range l {
		for k, b := range l {
			n, e := value.Compare(a, b)
			if e != api.OK || n != ahead(a, b) || (n == 0) != same(a, b) {
				t.Fatalf("Compare of %v and %v: %d, %d", a, b, n, e)
			}
			order[[2]int{i, k}] = n
		}
	}
	for i := range l {
		for k := range l {
			if order[[2]int{i, k}] != -order[[2]int{k, i}] {
				t.Fatalf("%v and %v: not the same both ways", l[i], l[k])
			}
			for m := range l {
				if order[[2]int{i, k}] < 0 && order[[2]int{k, m}] < 0 && order[[2]int{i, m}] >= 0 {
					t.Fatalf("%v, %v, %v: no order", l[i], l[k], l[m])
				}
			}
		}
	}
}

func TestKeysInOrder(t *testing.T) { // P1.9, P1.10
	l := someValues(500)
	for _, a := range l {
		for _, b := range l {
			k, m := keyOf(t, a), keyOf(t, b)
			if strings.Compare(k, m) != ahead(a, b) {
				t.Fatalf("keys of %v and %v: %q, %q", a, b, k, m)
			}
			if k != m && strings.HasPrefix(m, k) {
				t.Fatalf("the key %q is the beginning of %q", k, m)
			}
			if (textOf(t, a) == textOf(t, b)) != same(a, b) {
				t.Fatalf("texts of %v and %v", a, b)
			}
		}
	}
}

func TestThereAndBack(t *testing.T) { // P1.10
	for _, v := range append(someValues(1500), widest(), tower(6), row(8)) {
		if w, e := value.Parse(textOf(t, v)); e != api.OK || !same(v, w) {
			t.Fatalf("Parse of the text of %v: %v, %d", v, w, e)
		}
		if w, e := value.OfKey(keyOf(t, v)); e != api.OK || !same(v, w) {
			t.Fatalf("OfKey of the key of %v: %v, %d", v, w, e)
		}
	}
	texts := map[string]api.Type{}
	for _, u := range someTypes(1500) {
		s, e := value.TypeText(u)
		w, f := value.TypeParse(s)
		if e != api.OK || f != api.OK || !alike(u, w) {
			t.Fatalf("the type %v: %q, %d, %v, %d", u, s, e, w, f)
		}
		if x, ok := texts[s]; ok && !alike(u, x) {
			t.Fatalf("%v and %v have one text", u, x)
		}
		texts[s] = u
	}
}

// damaged returns s with each byte altered, left out, or doubled, and each beginning of s.
func damaged(s string, bytes string) []string {
	var l []string
	for i := range len(s) {
		l = append(l, s[:i], s[:i]+s[i+1:], s[:i]+s[i:i+1]+s[i:])
		for _, b := range []byte(bytes) {
			l = append(l, s[:i]+string([]byte{b})+s[i+1:], s[:i]+string([]byte{b})+s[i:])
		}
	}
	return l
}

func TestNothingElseIsRead(t *testing.T) { // P1.6, P1.10: what is read is written as just what was read
	for _, v := range someValues(200) {
		for _, s := range damaged(textOf(t, v), "01-+, ()#\"\\a\x00\x7f") {
			w, e := value.Parse(s)
			if e == api.OK && textOf(t, w) != s || e != api.OK && (e != api.ErrForm || !same(w, api.Value{})) {
				t.Fatalf("Parse of %q: %v, %d", s, w, e)
			}
		}
		for _, s := range damaged(keyOf(t, v), "\x00\x01\x02\x03\x04\x05\x08\x09a\x7f\xff") {
			w, e := value.OfKey(s)
			if e == api.OK && keyOf(t, w) != s || e != api.OK && (e != api.ErrForm || !same(w, api.Value{})) {
				t.Fatalf("OfKey of %q: %v, %d", s, w, e)
			}
		}
	}
	for _, u := range someTypes(200) {
		s, _ := value.TypeText(u)
		for _, s := range damaged(s, "()[], +intex") {
			w, e := value.TypeParse(s)
			back, _ := value.TypeText(w)
			if e == api.OK && back != s || e != api.OK && (e != api.ErrForm || !alike(w, api.Type{})) {
				t.Fatalf("TypeParse of %q: %v, %d", s, w, e)
			}
		}
	}
}

func TestEachTypeHasAValue(t *testing.T) { // P1.2, P1.4, P1.11
	values := someValues(300)
	for _, u := range someTypes(400) {
		least, e := value.Least(u)
		if e != api.OK || !value.Is(least, u) {
			t.Fatalf("the least of %v: %v, %d", u, least, e)
		}
		for _, v := range values {
			if value.Is(v, u) && ahead(least, v) > 0 {
				t.Fatalf("%v is ahead of the least of %v", v, u)
			}
		}
		if u.Kind == api.TypeTuple {
			for i, part := range u.L {
				if v, e := value.Least(part); e != api.OK || !same(v, least.L[i]) {
					t.Fatalf("the least of %v: part %d", u, i)
				}
			}
		}
	}
	for i, u := range someTypes(100) { // someValues makes three values of each, behind the sample
		for _, v := range values[1+3*i:][:min(3, len(values)-1-3*i)] {
			if !value.Is(v, u) {
				t.Fatalf("%v is not of %v", v, u)
			}
		}
	}
}

func TestSizesAdd(t *testing.T) { // P1.2, P1.11
	for _, v := range someValues(600) {
		sum := 1
		for _, part := range v.L {
			n, e := value.Size(part)
			if e != api.OK {
				t.Fatalf("Size of %v: %d", part, e)
			}
			sum += n
		}
		if n, e := value.Size(v); n != sum || e != api.OK {
			t.Fatalf("Size of %v: %d, %d", v, n, e)
		}
	}
}

func TestArgumentsStay(t *testing.T) { // P1.7, R4
	for _, u := range append(someTypes(200), invalidTypes()[:6]...) {
		v, w := copiedType(u), copiedType(u)
		value.Type(v)
		value.Is(sample, v)
		value.TypeText(v)
		least, _ := value.Least(v)
		if !alike(v, w) {
			t.Fatalf("the type %v became %v", w, v)
		}
		was := copied(least)
		spoilType(v)
		if !same(was, least) {
			t.Fatalf("the least of %v is kept in its type", w)
		}
		spoil(least)
		if again, _ := value.Least(w); !same(was, again) {
			t.Fatalf("the least of %v is kept", w)
		}
	}
	for _, x := range append(someValues(200), invalid()[:20]...) {
		v, w := copied(x), copied(x)
		value.Check(v)
		value.Size(v)
		value.Is(v, typed)
		value.Compare(v, v)
		value.Text(v)
		value.Key(v)
		if !same(v, w) {
			t.Fatalf("the value %v became %v", w, v)
		}
	}
}

// shared reports whether a part of a list of a value stands in the memory of another one of its lists.
func shared(v api.Value) bool {
	seen := map[*api.Value]bool{}
	var walk func(l []api.Value) bool
	walk = func(l []api.Value) bool {
		for i := range l[:cap(l)] {
			p := &l[:cap(l)][i]
			if seen[p] || i < len(l) && walk(p.L) {
				return true
			}
			seen[p] = true
		}
		return false
	}
	return walk(v.L)
}

func TestResultsAreNew(t *testing.T) { // P1.7, R4, W11
	for _, v := range someValues(300) {
		s, k := textOf(t, v), keyOf(t, v)
		a, _ := value.Parse(s)
		b, _ := value.OfKey(k)
		if shared(a) || shared(b) {
			t.Fatalf("lists of %v share memory", v)
		}
		spoil(a)
		if !same(b, v) {
			t.Fatalf("what was read of the key of %v is what was read of its text", v)
		}
		spoil(b)
		a, _ = value.Parse(s)
		b, _ = value.OfKey(k)
		if !same(a, v) || !same(b, v) || textOf(t, v) != s || keyOf(t, v) != k {
			t.Fatalf("%v: another answer the second time", v)
		}
	}
	for _, u := range someTypes(300) {
		s, _ := value.TypeText(u)
		a, _ := value.TypeParse(s)
		spoilType(a)
		if b, e := value.TypeParse(s); e != api.OK || !alike(b, u) {
			t.Fatalf("%v: another type the second time", u)
		}
		if v, _ := value.Least(u); shared(v) {
			t.Fatalf("lists of the least of %v share memory", u)
		}
	}
}

func TestCallsSideBySide(t *testing.T) { // W11: nothing is kept from call to call
	l := someValues(60)
	var want []string
	for _, v := range l {
		want = append(want, textOf(t, v)+keyOf(t, v))
	}
	got := make([][]string, 8)
	var all sync.WaitGroup
	for i := range got {
		all.Add(1)
		go func() {
			defer all.Done()
			for _, v := range l {
				s, _ := value.Text(v)
				k, _ := value.Key(v)
				w, _ := value.Parse(s)
				again, _ := value.Text(w)
				if again == s {
					got[i] = append(got[i], s+k)
				}
			}
		}()
	}
	all.Wait()
	for i := range got {
		if !slices.Equal(got[i], want) {
			t.Errorf("caller %d has other answers", i)
		}
	}
}

func TestNoLists(t *testing.T) { // R3
	empty := api.Value{Kind: api.ValueTuple, L: []api.Value{}}
	if n, e := value.Compare(tuple(), empty); n != 0 || e != api.OK {
		t.Errorf("nil and empty: %d, %d", n, e)
	}
	if keyOf(t, tuple()) != keyOf(t, empty) || textOf(t, tuple()) != textOf(t, empty) {
		t.Errorf("nil and empty are written differently")
	}
	if !value.Is(empty, none) || !value.Is(tuple(), api.Type{Kind: api.TypeTuple, L: []api.Type{}}) {
		t.Errorf("nil and empty are not of one type")
	}
}
