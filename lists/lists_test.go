package lists_test

import (
	"slices"
	"strconv"
	"testing"

	"deltaworks/lists"
)

type numbers []int

func TestEvery(t *testing.T) { // parts are asked in order, up to the first one of which it is not so
	for i, s := range []struct {
		l    numbers
		so   bool
		seen []int
	}{
		{nil, true, nil}, {numbers{2, 4, 6}, true, []int{2, 4, 6}}, {numbers{2, 3, 4, 5}, false, []int{2, 3}}, {numbers{1}, false, []int{1}},
	} {
		var seen []int
		so := lists.Every(s.l, func(n int) bool {
			seen = append(seen, n)
			return n%2 == 0
		})
		if so != s.so || !slices.Equal(seen, s.seen) {
			t.Errorf("%d: %t, of %v", i, so, seen)
		}
	}
}

func TestEach(t *testing.T) { // R4, R6
	l := []int{3, 1, 2}
	made := lists.Each(l, strconv.Itoa)
	if !slices.Equal(made, []string{"3", "1", "2"}) || !slices.Equal(l, []int{3, 1, 2}) {
		t.Errorf("%v of %v", made, l)
	}
	same := lists.Each(l, func(n int) int { return n })
	same[0] = 7
	if l[0] != 3 || len(lists.Each([]int(nil), strconv.Itoa)) > 0 {
		t.Errorf("%v", l)
	}
}
