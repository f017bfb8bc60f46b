package change_test

import (
	"slices"
	"strings"
	"testing"

	"deltaworks/api"
	"deltaworks/change"
)

// long returns n bytes of a text.
func long(n int) string { return strings.Repeat("a", n) }

// longs returns a map of 13 texts, or lists, of 300 each, which has the size 3927, and of some more.
func longs(k int, more ...int) api.Data {
	d := api.Data{Kind: api.DataMap}
	for i, n := range append(slices.Repeat([]int{300}, 13), more...) {
		d.Keys, d.L = append(d.Keys, num(i)), append(d.L, asData(k, chars(long(n))))
	}
	return d
}

func TestApplyFull(t *testing.T) { // P4.3, R1, R7
	bag, set, value, text := kind(api.DataBag), kind(api.DataSet), kind(api.DataValue), kind(api.DataText)
	thirteen := longs(api.DataText)
	for i, x := range []struct {
		ty api.DataType
		d  api.Data
		c  api.Change
		e  api.Errno
	}{
		{bag, bagged(many(0, 3998, 1)), summed(rows(-1, 1)), api.OK}, {bag, bagged(many(0, 3999, 1)), summed(rows(-1, 1)), api.ErrFull}, {bag, bagged(many(0, 3999, 1)), summed(rows(-1, 1, 0, -1)), api.OK}, {bag, bagged(many(0, 3999, 1)), summed(many(5000, 4000, 1)), api.ErrFull}, {bag, bagged(many(0, 3999, 1)), summed(many(0, 4000, -1)), api.OK},
		{set, setted(many(0, 3998, 1)), flipped(rows(-1, 1)), api.OK}, {set, setted(many(0, 3999, 1)), flipped(rows(-1, 1)), api.ErrFull}, {set, setted(many(0, 3999, 1)), flipped(append(rows(-1, 1), many(0, 3999, -1)...)), api.OK}, {set, setted(many(0, 3999, 1)), flipped(rows(-1, 1, 0, 1)), api.ErrState},
		{tuples(bag, bag), tupled(bagged(many(0, 2000, 1)), bagged(many(0, 1996, 1))), parted(summed(rows(-1, 1)), summed(nil)), api.OK}, {tuples(bag, bag), tupled(bagged(many(0, 2000, 1)), bagged(many(0, 1996, 1))), parted(summed(rows(-1, 1)), summed(rows(-1, 1))), api.ErrFull}, {tuples(bag, bag), tupled(bagged(many(0, 2000, 1)), bagged(many(0, 1996, 1))), parted(summed(rows(-1, 1, 0, -1)), summed(rows(-1, 1))), api.OK},
		{tuples(bag, value), tupled(bagged(many(0, 3997, 1)), valued(1)), parted(summed(rows(-1, 1)), turned(1, 2)), api.ErrFull}, {tuples(bag, value), tupled(bagged(many(0, 3997, 1)), valued(1)), parted(summed(rows(-1, 1)), turned(2, 1)), api.ErrState}, {tuples(bag, set), tupled(bagged(many(0, 3997, 1)), setted(nil)), parted(summed(rows(-1, 1)), flipped(rows(1, -1))), api.ErrState},
		{mapsOf(text), thirteen, keyed(put(99, texted(long(71)))), api.OK}, {mapsOf(text), thirteen, keyed(put(99, texted(long(72)))), api.ErrFull}, {mapsOf(text), thirteen, keyed(put(5, texted(long(72)))), api.ErrState}, {mapsOf(text), thirteen, keyed(put(99, texted(long(72))), drop(100, texted(""))), api.ErrState}, {mapsOf(text), thirteen, keyed(drop(0, texted(long(300))), put(99, texted(long(72)))), api.OK}, {mapsOf(text), thirteen, keyed(put(-2, texted(long(36))), put(-1, texted(long(33)))), api.OK}, {mapsOf(text), thirteen, keyed(put(-2, texted(long(36))), put(-1, texted(long(34)))), api.ErrFull},
		{mapsOf(kind(api.DataCount)), countsAt(1998), keyed(put(-1, counted(1))), api.OK}, {mapsOf(kind(api.DataCount)), countsAt(1999), keyed(put(-1, counted(1))), api.ErrFull}, {mapsOf(kind(api.DataCount)), countsAt(1999), keyed(puts(5000, 4000, counted(1))...), api.ErrFull}, {mapsOf(bag), mapped(1, bagged(many(0, 3997, 1))), keyed(in(1, summed(rows(-1, 1)))), api.ErrFull},
	} {
		d, e := change.Apply(x.ty, x.d, x.c)
		if is, _ := change.Is(x.ty, d); e != x.e || e == api.OK && !is || e != api.OK && !same(d, api.Data{}) {
			t.Errorf("%d: %v, %d", i, is, e)
		}
	}
}

func TestDiffFull(t *testing.T) { // P4.4, R7
	bag, set := kind(api.DataBag), kind(api.DataSet)
	for i, x := range []struct {
		ty   api.DataType
		a, b api.Data
		e    api.Errno
	}{
		{bag, bagged(many(0, 2000, 1)), bagged(many(5000, 2000, 1)), api.OK}, {bag, bagged(many(0, 2001, 1)), bagged(many(5000, 2000, 1)), api.ErrFull}, {bag, bagged(many(0, 3999, 1)), bagged(many(5000, 3999, 1)), api.ErrFull}, {bag, bagged(many(0, 3999, 1)), bagged(many(1, 3999, 1)), api.OK},
		{set, setted(many(0, 2000, 1)), setted(many(5000, 2000, 1)), api.OK}, {set, setted(many(0, 2000, 1)), setted(many(5000, 2001, 1)), api.ErrFull}, {tuples(bag, set), tupled(bagged(many(0, 3997, 1)), setted(nil)), tupled(bagged(nil), setted(many(0, 3997, 1))), api.OK}, {tuples(set, bag), tupled(setted(nil), bagged(many(0, 3000, 1))), tupled(setted(nil), bagged(many(5000, 3000, 1))), api.ErrFull},
		{mapsOf(bag), mapped(1, bagged(many(0, 3000, 1))), mapped(1, bagged(many(5000, 3000, 1))), api.ErrFull}, {mapsOf(bag), mapped(1, bagged(many(0, 3000, 1))), mapped(2, bagged(many(5000, 3000, 1))), api.OK}, {mapsOf(kind(api.DataCount)), countsAt(1999), mapped(), api.OK}, {kind(api.DataText), texted(long(300)), texted(strings.Repeat("b", 300)), api.OK},
	} {
		c, e := change.Diff(x.ty, x.a, x.b)
		if fits, _ := change.Fits(x.ty, c); e != x.e || e == api.OK && !fits || e != api.OK && !same(c, no()) {
			t.Errorf("%d: %v, %d", i, fits, e)
		}
	}
}

// both are two changes, with the error of each way to make them one.
type both struct {
	ty   api.DataType
	a, b api.Change
	e, f api.Errno
}

// fulls lists changes that are too great as one, or just not.
func fulls() []both {
	bag, set, list, value := kind(api.DataBag), kind(api.DataSet), kind(api.DataList), kind(api.DataValue)
	words, bags := mapsOf(kind(api.DataCount)), mapsOf(bag)
	const full, clash = api.ErrFull, api.ErrClash
	c, b := counted(1), bagged(many(0, 3999, 1))
	return []both{
		{bag, summed(many(0, 2000, 1)), summed(many(5000, 2000, 1)), 0, 0}, {bag, summed(many(0, 2001, 1)), summed(many(5000, 2000, 1)), full, full}, {bag, summed(many(0, 4000, 1)), summed(many(5000, 4000, 1)), full, full}, {bag, summed(many(0, 4000, 1)), summed(many(0, 4000, 1)), 0, 0},
		{set, flipped(many(0, 2000, 1)), flipped(many(5000, 2000, -1)), 0, 0}, {set, flipped(many(0, 2001, 1)), flipped(many(5000, 2000, -1)), full, full}, {set, flipped(many(0, 4000, 1)), flipped(many(0, 4000, 1)), clash, 0}, {set, flipped(many(0, 4000, 1)), flipped(append(many(0, 1, 1), many(5000, 3999, 1)...)), clash, full}, {set, flipped(many(0, 4000, 1)), flipped(append(many(0, 1, -1), many(5000, 3999, 1)...)), full, clash},
		{list, edited("+" + long(200)), edited("+" + strings.Repeat("b", 100)), clash, 0}, {list, edited("+" + long(200)), edited("+" + strings.Repeat("b", 101)), clash, full}, {list, edited("=1 +" + long(200)), edited("=1 +" + long(100)), clash, full}, {list, edited("=1 +" + long(200)), edited("-b +" + long(100)), clash, 0}, {list, edited("-a +" + long(200)), edited("-b +" + long(200)), clash, clash}, {kind(api.DataText), typed("+" + long(200)), typed("+" + long(101)), clash, full}, {list, edited("=1 +" + long(299)), edited("=299 -a +b"), 0, clash}, {list, edited("-" + long(300)), edited("+" + long(300)), 0, clash},
		{tuples(bag, value), parted(summed(many(0, 4000, 1)), turned(1, 2)), parted(summed(rows(-1, 1)), no()), full, full}, {tuples(bag, value), parted(summed(many(0, 4000, 1)), turned(1, 2)), parted(summed(rows(-1, 1)), turned(2, 3)), full, clash}, {tuples(bag, value), parted(summed(many(0, 4000, 1)), turned(1, 2)), parted(summed(rows(-1, 1)), turned(1, 2)), clash, full}, {tuples(list, value), parted(edited("+"+long(200)), turned(1, 2)), parted(edited("+"+long(101)), turned(1, 3)), clash, clash}, {tuples(list, value), parted(edited("+"+long(200)), turned(1, 2)), parted(edited("+"+long(101)), turned(1, 2)), clash, full}, {mapsOf(list), keyed(in(1, edited("+"+long(200))), put(2, listed("a"))), keyed(in(1, edited("+"+long(101))), put(2, listed("b"))), clash, clash}, {mapsOf(list), keyed(in(1, edited("+"+long(200))), put(2, listed("a"))), keyed(in(1, edited("+"+long(101))), put(2, listed("a"))), clash, full},
		{words, keyed(puts(0, 2000, c)...), keyed(puts(5000, 2000, c)...), 0, 0}, {words, keyed(puts(0, 2001, c)...), keyed(puts(5000, 2000, c)...), full, full}, {words, keyed(puts(0, 4000, c)...), keyed(put(9999, c), drop(10000, c)), full, full}, {words, keyed(puts(0, 4000, c)...), keyed(put(-1, c), drop(5, c)), 0, clash}, {words, keyed(puts(0, 4000, c)...), keyed(put(-2, c), put(-1, c), drop(5, c)), full, clash}, {words, keyed(puts(0, 4000, c)...), keyed(put(-1, c), put(5, c)), clash, full}, {nested(), keyed(in(1, keyed(puts(0, 4000, c)...))), keyed(in(1, keyed(put(-1, c)))), full, full}, {nested(), keyed(in(1, keyed(puts(0, 4000, c)...))), keyed(in(2, keyed(put(-1, c)))), 0, 0},
		{bags, keyed(put(1, b)), keyed(in(1, summed(rows(-1, 1)))), full, clash}, {bags, keyed(put(1, b)), keyed(in(1, summed(rows(-1, 1, 0, -1)))), 0, clash}, {bags, keyed(put(1, b), put(2, b)), keyed(in(1, summed(rows(-1, 1))), drop(2, bagged(nil))), clash, clash}, {bags, keyed(in(1, summed(rows(-1, -1)))), keyed(drop(1, b)), full, clash}, {bags, keyed(in(1, summed(rows(0, 1)))), keyed(drop(1, b)), 0, clash}, {bags, keyed(drop(1, b)), keyed(put(1, bagged(rows(-1, 1, 0, 1)))), 0, clash}, {bags, keyed(drop(1, b)), keyed(put(1, bagged(rows(-2, 1, -1, 1)))), full, clash}, {bags, keyed(put(1, b), put(2, b)), keyed(put(1, b), put(2, b)), clash, 0},
		{nested(), keyed(put(1, countsAt(1999))), keyed(in(1, keyed(put(-1, c)))), full, clash}, {nested(), keyed(in(1, keyed(drop(-1, c)))), keyed(drop(1, countsAt(1999))), full, clash}, {nested(), keyed(in(1, keyed(drop(-1, c)))), keyed(drop(1, countsAt(1998))), 0, clash},
	}
}

func TestAsOneFull(t *testing.T) { // P4.6, P4.7, R1, R7: what clashes comes first
	for i, x := range fulls() {
		one, e := change.Compose(x.ty, x.a, x.b)
		if fits, _ := change.Fits(x.ty, one); e != x.e || e == api.OK && !fits || e != api.OK && !same(one, no()) {
			t.Errorf("Compose %d: %v, %d", i, fits, e)
		}
		together, e := change.Merge(x.ty, x.a, x.b)
		if fits, _ := change.Fits(x.ty, together); e != x.f || e == api.OK && !fits || e != api.OK && !same(together, no()) {
			t.Errorf("Merge %d: %v, %d", i, fits, e)
		}
	}
}
