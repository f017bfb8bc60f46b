package alike_test

import (
	"testing"

	"deltaworks/alike"
	"deltaworks/api"
	"deltaworks/refuse"
)

func tuples(l ...api.Type) api.Type { return api.Type{Kind: api.TypeTuple, L: l} }
func sums(l ...api.Type) api.Type   { return api.Type{Kind: api.TypeSum, L: l} }

func TestTypes(t *testing.T) { // R3: nil and empty lists are the same
	word, text := api.Type{}, api.Type{Kind: api.TypeText}
	l := []api.Type{word, text, tuples(), tuples(word), tuples(text), tuples(word, text), tuples(text, word), sums(word), sums(word, text), tuples(tuples(word)), tuples(sums(word), tuples())}
	for i, a := range l {
		for k, b := range l {
			if alike.Types(a, b) != (i == k) {
				t.Errorf("%v and %v", a, b)
			}
			one, e := refuse.Answer(func() api.Type { return alike.One(a, a, b, a) })
			if i == k && (e != api.OK || !alike.Types(one, a)) || i != k && e != api.ErrType {
				t.Errorf("one of %v and %v: %v, %d", a, b, one, e)
			}
		}
		if !alike.Types(a, api.Type{Kind: a.Kind, L: append([]api.Type{}, a.L...)}) {
			t.Errorf("%v is not itself", a)
		}
	}
}
