package change_test

import (
	"testing"

	"deltaworks/api"
	"deltaworks/change"
)

func TestEmptyAndNone(t *testing.T) { // P4.2
	pairs := of(api.DataValue, pairType())
	for i, x := range []struct {
		ty api.DataType
		d  api.Data
		c  api.Change
	}{
		{kind(api.DataValue), valued(api.WordLow), api.Change{}}, {of(api.DataValue, sumType()), api.Data{V: tagged(0, num(api.WordLow))}, api.Change{}}, {pairs, api.Data{V: tuple(num(api.WordLow), text(""))}, api.Change{}},
		{kind(api.DataCount), counted(0), added(0)}, {kind(api.DataText), texted(""), typed("")}, {kind(api.DataList), listed(""), edited("")}, {kind(api.DataBag), bagged(nil), summed(nil)}, {kind(api.DataSet), setted(nil), flipped(nil)}, {nested(), mapped(), keyed()}, {tuples(), tupled(), parted()},
		{tuples(kind(api.DataSet), tuples(pairs, kind(api.DataCount)), nested()), tupled(setted(nil), tupled(api.Data{V: tuple(num(api.WordLow), text(""))}, counted(0)), mapped()), parted(flipped(nil), parted(api.Change{}, added(0)), keyed())},
	} {
		if d, e := change.Empty(x.ty); !same(d, x.d) || e != api.OK {
			t.Errorf("Empty %d: %v, %d", i, d, e)
		}
		if c, e := change.None(x.ty); !same(c, x.c) || e != api.OK {
			t.Errorf("None %d: %v, %d", i, c, e)
		}
	}
}

// move is two data, the change from the one to the other one, and the change back.
type move struct {
	ty      api.DataType
	a, b    api.Data
	c, back api.Change
}

// moves lists some of each kind, with the chapter's examples.
func moves() []move {
	count, set, bag := kind(api.DataCount), kind(api.DataSet), kind(api.DataBag)
	words, pairs := mapsOf(count), tuples(count, kind(api.DataText))
	return []move{
		{kind(api.DataValue), valued(1), valued(3), turned(1, 3), turned(3, 1)}, {kind(api.DataValue), valued(0), valued(0), api.Change{}, api.Change{}}, {of(api.DataValue, sumType()), api.Data{V: tagged(0, num(1))}, api.Data{V: tagged(1, text("1"))}, api.Change{N: 1, Old: tagged(0, num(1)), New: tagged(1, text("1"))}, api.Change{N: 1, New: tagged(0, num(1)), Old: tagged(1, text("1"))}},
		{count, counted(5), counted(3), added(-2), added(2)}, {count, counted(api.WordLow), counted(api.WordHigh), added(-1), added(1)}, {count, counted(0), counted(api.WordLow), added(api.WordLow), added(api.WordLow)}, {count, counted(api.WordHigh), counted(-1), added(api.WordLow), added(api.WordLow)}, {count, counted(7), counted(7), added(0), added(0)},
		{kind(api.DataText), texted("abcd"), texted("acxd"), typed("=1 -b =1 +x =1"), typed("=1 +b =1 -x =1")}, {kind(api.DataText), texted("kitten"), texted("sitting"), typed("-k +s =3 -e +i =1 +g"), typed("-s +k =3 -i +e =1 -g")}, {kind(api.DataText), texted(""), texted("ab"), typed("+ab"), typed("-ab")}, {kind(api.DataText), texted("ab"), texted("ab"), typed(""), typed("")}, {kind(api.DataText), texted(""), texted(""), typed(""), typed("")},
		{kind(api.DataList), listed("ab"), listed("ba"), edited("-a =1 +a"), edited("+a =1 -a")}, {kind(api.DataList), listed("ab"), listed(""), edited("-ab"), edited("+ab")}, {kind(api.DataList), listed("a"), listed("a"), edited(""), edited("")},
		{bag, bagged(rows(1, 2, 2, -1)), bagged(rows(1, 1, 3, 4)), summed(rows(1, -1, 2, 1, 3, 4)), summed(rows(1, 1, 2, -1, 3, -4))}, {bag, bagged(rows(1, -1<<63)), bagged(rows(1, 1<<63-1)), summed(rows(1, -1)), summed(rows(1, 1))}, {bag, bagged(rows(1, 2)), bagged(rows(1, 2)), summed(nil), summed(nil)},
		{set, setted(rows(1, 1, 2, 1)), setted(rows(2, 1, 3, 1)), flipped(rows(1, -1, 3, 1)), flipped(rows(1, 1, 3, -1))}, {set, setted(rows(1, 1)), setted(rows(1, 1)), flipped(nil), flipped(nil)}, {set, setted(nil), setted(rows(-5, 1)), flipped(rows(-5, 1)), flipped(rows(-5, -1))},
		{pairs, tupled(counted(1), texted("a")), tupled(counted(1), texted("")), parted(added(0), typed("-a")), parted(added(0), typed("+a"))}, {tuples(), tupled(), tupled(), parted(), parted()},
		{words, mapped(1, counted(5), 2, counted(6)), mapped(2, counted(7), 3, counted(5)), keyed(drop(1, counted(5)), in(2, added(1)), put(3, counted(5))), keyed(put(1, counted(5)), in(2, added(-1)), drop(3, counted(5)))}, {words, mapped(1, counted(5)), mapped(1, counted(5)), keyed(), keyed()},
		{nested(), mapped(1, mapped(1, counted(1)), 2, mapped(5, counted(5)), 3, mapped()), mapped(1, mapped(2, counted(1)), 2, mapped(5, counted(5)), 4, mapped()), keyed(in(1, keyed(drop(1, counted(1)), put(2, counted(1)))), drop(3, mapped()), put(4, mapped())), keyed(in(1, keyed(put(1, counted(1)), drop(2, counted(1)))), put(3, mapped()), drop(4, mapped()))},
		{textMaps(set), api.Data{Kind: api.DataMap, Keys: []api.Value{text("a"), text("aa")}, L: []api.Data{setted(nil), setted(rows(1, 1))}}, api.Data{Kind: api.DataMap, Keys: []api.Value{text("aa"), text("b")}, L: []api.Data{setted(nil), setted(nil)}}, keyed(api.KeyChange{Key: text("a"), Op: api.KeyDrop, Data: setted(nil)}, api.KeyChange{Key: text("aa"), Op: api.KeyIn, Change: flipped(rows(1, -1))}, api.KeyChange{Key: text("b"), Op: api.KeyPut, Data: setted(nil)}), keyed(api.KeyChange{Key: text("a"), Op: api.KeyPut, Data: setted(nil)}, api.KeyChange{Key: text("aa"), Op: api.KeyIn, Change: flipped(rows(1, 1))}, api.KeyChange{Key: text("b"), Op: api.KeyDrop, Data: setted(nil)})},
	}
}

func TestMoves(t *testing.T) { // P4.1, P4.3, P4.4, P4.5
	for i, x := range moves() {
		if c, e := change.Diff(x.ty, x.a, x.b); !same(c, x.c) || e != api.OK {
			t.Errorf("Diff %d: %v, %d", i, c, e)
		}
		if c, e := change.Invert(x.ty, x.c); !same(c, x.back) || e != api.OK {
			t.Errorf("Invert %d: %v, %d", i, c, e)
		}
		if d, e := change.Apply(x.ty, x.a, x.c); !same(d, x.b) || e != api.OK {
			t.Errorf("Apply %d: %v, %d", i, d, e)
		}
		if d, e := change.Apply(x.ty, x.b, x.back); !same(d, x.a) || e != api.OK {
			t.Errorf("Apply %d back: %v, %d", i, d, e)
		}
		if fits, e := change.Fits(x.ty, x.c); !fits || e != api.OK {
			t.Errorf("Fits %d: %v, %d", i, fits, e)
		}
		if is, e := change.Is(x.ty, x.a); !is || e != api.OK {
			t.Errorf("Is %d: %v, %d", i, is, e)
		}
	}
}

func TestNoState(t *testing.T) { // P4.3: something must be so, and is not
	list, set, value := kind(api.DataList), kind(api.DataSet), kind(api.DataValue)
	words := mapsOf(kind(api.DataCount))
	for i, x := range []struct {
		ty api.DataType
		d  api.Data
		c  api.Change
		e  api.Errno
	}{
		{value, valued(2), turned(1, 3), api.ErrState}, {value, valued(3), turned(1, 3), api.ErrState}, {value, valued(3), api.Change{}, api.OK}, {of(api.DataValue, pairType()), api.Data{V: tuple(num(1), text("a"))}, api.Change{N: 1, Old: tuple(num(1), text("b")), New: tuple(num(2), text("a"))}, api.ErrState},
		{kind(api.DataText), texted("ab"), typed("=1 -c"), api.ErrState}, {kind(api.DataText), texted("ab"), typed("=1 -b =1"), api.ErrState}, {kind(api.DataText), texted("abc"), typed("=1 -b"), api.ErrState}, {kind(api.DataText), texted("abc"), typed(""), api.OK}, {kind(api.DataText), texted(""), typed("-a"), api.ErrState}, {kind(api.DataText), texted("a"), typed("+a"), api.ErrState},
		{list, listed("ab"), edited("=1 -c"), api.ErrState}, {list, listed("ab"), edited("=2 +c =1"), api.ErrState}, {list, listed("abc"), edited("=1 +b"), api.ErrState}, {list, listed("abc"), edited(""), api.OK}, {list, listed(""), edited("+b"), api.OK},
		{kind(api.DataBag), bagged(nil), summed(rows(1, -5)), api.OK}, {set, setted(rows(1, 1)), flipped(rows(1, 1)), api.ErrState}, {set, setted(rows(1, 1)), flipped(rows(2, -1)), api.ErrState}, {set, setted(rows(1, 1, 3, 1)), flipped(rows(1, -1, 2, 1, 3, 1)), api.ErrState}, {set, setted(rows(1, 1, 3, 1)), flipped(rows(1, -1, 2, -1, 4, 1)), api.ErrState}, {set, setted(rows(1, 1)), flipped(nil), api.OK},
		{words, mapped(1, counted(4)), keyed(drop(1, counted(5))), api.ErrState}, {words, mapped(1, counted(4)), keyed(put(1, counted(4))), api.ErrState}, {words, mapped(1, counted(4)), keyed(put(1, counted(5))), api.ErrState}, {words, mapped(1, counted(4)), keyed(in(2, added(5))), api.ErrState}, {words, mapped(1, counted(4)), keyed(drop(2, counted(4))), api.ErrState}, {words, mapped(1, counted(4)), keyed(), api.OK}, {words, mapped(1, counted(4)), keyed(drop(0, counted(4)), in(1, added(2))), api.ErrState}, {words, mapped(), keyed(put(0, counted(4)), in(1, added(2))), api.ErrState},
		{mapsOf(value), mapped(1, valued(4)), keyed(in(1, turned(5, 4))), api.ErrState}, {mapsOf(value), mapped(1, valued(4)), keyed(in(1, turned(4, 5))), api.OK}, {mapsOf(list), mapped(1, listed("ab")), keyed(drop(1, listed("ba"))), api.ErrState}, {mapsOf(kind(api.DataBag)), mapped(1, bagged(rows(1, 2))), keyed(drop(1, bagged(rows(1, 3)))), api.ErrState}, {mapsOf(tuples(value, value)), mapped(1, tupled(valued(1), valued(2))), keyed(drop(1, tupled(valued(1), valued(3)))), api.ErrState}, {nested(), mapped(1, mapped(1, counted(2))), keyed(drop(1, mapped(2, counted(2)))), api.ErrState}, {nested(), mapped(1, mapped(1, counted(2))), keyed(drop(1, mapped(1, counted(2)))), api.OK}, {nested(), mapped(1, mapped(1, counted(2))), keyed(in(1, keyed(drop(1, counted(3))))), api.ErrState}, {mapsOf(kind(api.DataText)), mapped(1, texted("a")), keyed(drop(1, texted("b"))), api.ErrState}, {mapsOf(value), mapped(1, valued(1)), keyed(drop(1, valued(2))), api.ErrState},
		{tuples(value, value), tupled(valued(1), valued(1)), parted(turned(1, 2), turned(2, 1)), api.ErrState}, {tuples(value, value), tupled(valued(1), valued(1)), parted(api.Change{}, turned(1, 2)), api.OK},
	} {
		d, e := change.Apply(x.ty, x.d, x.c)
		if e != x.e || e != api.OK && !same(d, api.Data{}) {
			t.Errorf("%d: %v, %d", i, d, e)
		}
	}
}

// two is two changes, what they are as one, the second one behind the first one, and what they are brought together, with the errors.
type two struct {
	ty   api.DataType
	a, b api.Change
	one  api.Change
	e    api.Errno
	both api.Change
	f    api.Errno
}

// no is the result with an error.
func no() api.Change { return api.Change{} }

// flat lists changes of all kinds but maps.
func flat() []two {
	count, set, bag, value, list := kind(api.DataCount), kind(api.DataSet), kind(api.DataBag), kind(api.DataValue), kind(api.DataList)
	const clash = api.ErrClash
	return []two{
		{value, turned(1, 2), turned(2, 3), turned(1, 3), 0, no(), clash}, {value, turned(1, 2), turned(2, 1), no(), 0, no(), clash}, {value, turned(1, 2), turned(1, 2), no(), clash, turned(1, 2), 0}, {value, turned(1, 2), turned(1, 3), no(), clash, no(), clash}, {value, turned(1, 3), turned(2, 3), no(), clash, no(), clash},
		{value, no(), turned(1, 2), turned(1, 2), 0, turned(1, 2), 0}, {value, turned(1, 2), no(), turned(1, 2), 0, turned(1, 2), 0}, {value, no(), no(), no(), 0, no(), 0},
		{count, added(5), added(-7), added(-2), 0, added(-2), 0}, {count, added(api.WordHigh), added(2), added(api.WordLow + 1), 0, added(api.WordLow + 1), 0}, {count, added(api.WordLow), added(api.WordLow), added(0), 0, added(0), 0},
		{list, edited("=1 -b +xy =1"), edited("-a =1 -y =1"), edited("-ab +x =1"), 0, no(), clash}, {list, edited("+ab"), edited("-ab"), edited(""), 0, no(), clash}, {list, edited("+a"), edited("-b"), no(), clash, no(), clash}, {list, edited("=1 +x =1"), edited("=1 -b +y"), no(), clash, edited("=1 -b +xy"), 0}, {list, edited("-a =1"), edited("-a =1"), no(), clash, edited("-a =1"), 0}, {list, edited("-a +b"), edited("-b +a"), edited("-a +a"), 0, no(), clash}, {list, edited("-a"), edited("+a"), edited("-a +a"), 0, no(), clash},
		{list, edited(""), edited("+a"), edited("+a"), 0, edited("+a"), 0}, {list, edited("=7 -a"), edited(""), edited("=7 -a"), 0, edited("=7 -a"), 0}, {list, edited(""), edited(""), edited(""), 0, edited(""), 0}, {list, edited("+a"), edited("+b"), no(), clash, edited("+ab"), 0},
		{kind(api.DataText), typed("=1 -b +xy =1"), typed("-a =1 -y =1"), typed("-ab +x =1"), 0, no(), clash}, {kind(api.DataText), typed("=1 +x =1"), typed("=1 -b +y"), no(), clash, typed("=1 -b +xy"), 0}, {kind(api.DataText), typed("+ab"), typed("-ab"), typed(""), 0, no(), clash}, {kind(api.DataText), typed(""), typed("=2 +c"), typed("=2 +c"), 0, typed("=2 +c"), 0},
		{bag, summed(rows(1, 2, 2, -1)), summed(rows(1, -2, 2, -1, 3, 5)), summed(rows(2, -2, 3, 5)), 0, summed(rows(2, -2, 3, 5)), 0}, {bag, summed(rows(1, -1<<63)), summed(rows(1, -1<<63)), summed(nil), 0, summed(nil), 0}, {bag, summed(nil), summed(rows(1, 1)), summed(rows(1, 1)), 0, summed(rows(1, 1)), 0},
		{set, flipped(rows(1, 1)), flipped(rows(1, -1, 2, 1)), flipped(rows(2, 1)), 0, no(), clash}, {set, flipped(rows(1, 1)), flipped(rows(1, 1, 2, -1)), no(), clash, flipped(rows(1, 1, 2, -1)), 0}, {set, flipped(rows(1, -1, 3, -1)), flipped(rows(1, -1, 2, 1, 3, -1)), no(), clash, flipped(rows(1, -1, 2, 1, 3, -1)), 0}, {set, flipped(rows(1, -1)), flipped(rows(2, 1)), flipped(rows(1, -1, 2, 1)), 0, flipped(rows(1, -1, 2, 1)), 0}, {set, flipped(rows(1, 1, 2, 1)), flipped(rows(1, 1, 2, -1)), no(), clash, no(), clash}, {set, flipped(rows(1, -1)), flipped(rows(1, 1)), flipped(nil), 0, no(), clash},
		{tuples(count, value), parted(added(1), turned(1, 2)), parted(added(2), no()), parted(added(3), turned(1, 2)), 0, parted(added(3), turned(1, 2)), 0}, {tuples(count, value), parted(added(1), turned(1, 2)), parted(added(-1), turned(2, 1)), parted(added(0), no()), 0, no(), clash}, {tuples(value, count), parted(turned(1, 2), added(0)), parted(turned(3, 4), added(0)), no(), clash, no(), clash}, {tuples(), parted(), parted(), parted(), 0, parted(), 0}, {tuples(value, value), parted(turned(1, 2), no()), parted(no(), turned(1, 2)), parted(turned(1, 2), turned(1, 2)), 0, parted(turned(1, 2), turned(1, 2)), 0},
	}
}

// ofMaps lists changes of maps: all that can happen to one key in both.
func ofMaps() []two {
	words, texts := mapsOf(kind(api.DataCount)), mapsOf(kind(api.DataText))
	const clash = api.ErrClash
	c := counted
	return []two{
		{words, keyed(put(1, c(5))), keyed(put(1, c(5))), no(), clash, keyed(put(1, c(5))), 0}, {words, keyed(put(1, c(5))), keyed(put(1, c(6))), no(), clash, no(), clash},
		{words, keyed(put(1, c(5))), keyed(drop(1, c(5))), keyed(), 0, no(), clash}, {words, keyed(put(1, c(5))), keyed(drop(1, c(6))), no(), clash, no(), clash}, {words, keyed(put(1, c(5))), keyed(in(1, added(6))), keyed(put(1, c(11))), 0, no(), clash},
		{words, keyed(drop(1, c(5))), keyed(put(1, c(5))), keyed(), 0, no(), clash}, {words, keyed(drop(1, c(5))), keyed(put(1, c(3))), keyed(in(1, added(-2))), 0, no(), clash}, {words, keyed(drop(1, c(5))), keyed(drop(1, c(5))), no(), clash, keyed(drop(1, c(5))), 0}, {words, keyed(drop(1, c(5))), keyed(drop(1, c(6))), no(), clash, no(), clash}, {words, keyed(drop(1, c(5))), keyed(in(1, added(3))), no(), clash, no(), clash},
		{words, keyed(in(1, added(5))), keyed(put(1, c(5))), no(), clash, no(), clash}, {words, keyed(in(1, added(5))), keyed(drop(1, c(7))), keyed(drop(1, c(2))), 0, no(), clash}, {words, keyed(in(1, added(5))), keyed(in(1, added(2))), keyed(in(1, added(7))), 0, keyed(in(1, added(7))), 0}, {words, keyed(in(1, added(5))), keyed(in(1, added(-5))), keyed(), 0, keyed(), 0},
		{words, keyed(put(2, c(6))), keyed(drop(1, c(5)), in(3, added(1))), keyed(drop(1, c(5)), put(2, c(6)), in(3, added(1))), 0, keyed(drop(1, c(5)), put(2, c(6)), in(3, added(1))), 0}, {words, keyed(), keyed(put(1, c(5))), keyed(put(1, c(5))), 0, keyed(put(1, c(5))), 0}, {words, keyed(put(1, c(5))), keyed(put(2, c(6))), keyed(put(1, c(5)), put(2, c(6))), 0, keyed(put(1, c(5)), put(2, c(6))), 0},
		{words, keyed(drop(1, c(5)), in(2, added(1)), put(3, c(5))), keyed(drop(2, c(7))), keyed(drop(1, c(5)), drop(2, c(6)), put(3, c(5))), 0, no(), clash}, {words, keyed(in(1, added(1)), put(2, c(5))), keyed(in(1, added(1)), put(2, c(5))), no(), clash, keyed(in(1, added(2)), put(2, c(5))), 0},
		{texts, keyed(put(1, texted("ab"))), keyed(in(1, typed("=1 -b"))), keyed(put(1, texted("a"))), 0, no(), clash}, {texts, keyed(put(1, texted("ab"))), keyed(in(1, typed("=1 -c"))), no(), clash, no(), clash}, {texts, keyed(drop(1, texted("ab"))), keyed(put(1, texted("b"))), keyed(in(1, typed("-a =1"))), 0, no(), clash}, {texts, keyed(in(1, typed("=1 -b"))), keyed(drop(1, texted("a"))), keyed(drop(1, texted("ab"))), 0, no(), clash}, {texts, keyed(in(1, typed("=1 -b"))), keyed(drop(1, texted("ab"))), no(), clash, no(), clash}, {texts, keyed(in(1, typed("=1 +b"))), keyed(in(1, typed("=1 -b"))), keyed(), 0, no(), clash}, {texts, keyed(in(1, typed("=1 +b"))), keyed(in(1, typed("-a"))), no(), clash, keyed(in(1, typed("-a +b"))), 0},
		{nested(), keyed(in(1, keyed(put(1, c(5))))), keyed(in(1, keyed(put(2, c(6))))), keyed(in(1, keyed(put(1, c(5)), put(2, c(6))))), 0, keyed(in(1, keyed(put(1, c(5)), put(2, c(6))))), 0}, {nested(), keyed(in(1, keyed(put(1, c(5))))), keyed(in(1, keyed(drop(1, c(5))))), keyed(), 0, no(), clash}, {nested(), keyed(drop(1, mapped(1, c(5), 2, c(6)))), keyed(put(1, mapped(2, c(7)))), keyed(in(1, keyed(drop(1, c(5)), in(2, added(1))))), 0, no(), clash}, {nested(), keyed(in(1, keyed(put(1, c(5))))), keyed(drop(1, mapped(1, c(5), 2, c(6)))), keyed(drop(1, mapped(2, c(6)))), 0, no(), clash}, {nested(), keyed(in(1, keyed(put(1, c(5))))), keyed(drop(1, mapped(2, c(6)))), no(), clash, no(), clash}, {nested(), keyed(put(1, mapped())), keyed(in(1, keyed(put(1, c(5))))), keyed(put(1, mapped(1, c(5)))), 0, no(), clash}, {nested(), keyed(drop(1, mapped(1, c(5)))), keyed(drop(1, mapped(1, c(5)))), no(), clash, keyed(drop(1, mapped(1, c(5)))), 0}, {nested(), keyed(put(1, mapped(1, c(5)))), keyed(put(1, mapped(2, c(5)))), no(), clash, no(), clash},
	}
}

func TestComposeAndMerge(t *testing.T) { // P4.6, P4.7
	for i, x := range append(flat(), ofMaps()...) {
		if c, e := change.Compose(x.ty, x.a, x.b); !same(c, x.one) || e != x.e {
			t.Errorf("Compose %d: %v, %d", i, c, e)
		}
		if c, e := change.Merge(x.ty, x.a, x.b); !same(c, x.both) || e != x.f {
			t.Errorf("Merge %d: %v, %d", i, c, e)
		}
	}
}
