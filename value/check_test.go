package value_test

import (
	"strings"
	"testing"

	"deltaworks/api"
	"deltaworks/value"
)

// allBytes has each byte that a text may have.
func allBytes() string {
	var b []byte
	for c := byte(32); c <= 126; c++ {
		b = append(b, c)
	}
	return string(b)
}

// valid lists valid values, with how many values are in each.
func valid() map[int][]api.Value {
	six := tuple(row(8), row(8), row(8), row(8), row(8), row(8))
	full := tuple(append(copied(six).L, row(4))...)
	return map[int][]api.Value{
		1:  {{}, num(api.WordLow), num(api.WordHigh), text(""), text(allBytes()), text(strings.Repeat("~", api.TextMost)), tuple(), {Kind: api.ValueTuple, L: []api.Value{}}, {N: 3, L: []api.Value{}}},
		2:  {tag(0, num(0)), tag(7, tuple()), tuple(text("a"))},
		6:  {sample, tower(6)},
		9:  {row(8)},
		60: {full},
	}
}

// invalid lists values each of which breaks one rule.
func invalid() []api.Value {
	six := tuple(row(8), row(8), row(8), row(8), row(8), row(8))
	l := []api.Value{
		num(api.WordLow - 1), num(api.WordHigh + 1), num(1 << 62), num(-1 << 63),
		{S: "a"}, {L: []api.Value{{}}}, {Kind: api.ValueText, N: 1}, {Kind: api.ValueText, L: []api.Value{{}}},
		{Kind: api.ValueTuple, N: 1}, {Kind: api.ValueTuple, S: "a"}, {Kind: api.ValueTag, S: "a", L: []api.Value{{}}},
		{Kind: api.ValueTag}, {Kind: api.ValueTag, L: []api.Value{{}, {}}}, tag(-1, num(0)), tag(8, num(0)), tag(1<<40, num(0)),
		{Kind: 4}, {Kind: -1}, {Kind: 1 << 62}, {Kind: -1 << 63},
		text(strings.Repeat("a", api.TextMost+1)), text(strings.Repeat("a", 1<<20)), text("\x1f"), text("a\x00"), text("\x7f"), text("\x80"), text("ä"), text("\n"),
		row(9), row(1 << 16), tower(7), tower(100), itself(), tag(0, itself()),
		tuple(append(copied(six).L, row(5))...), tuple(append(six.L, row(8), row(8))...),
	}
	for _, v := range l[:len(l):len(l)] { // as a part, too
		l = append(l, tuple(num(0), v), tag(1, v))
	}
	return l
}

func TestValidValues(t *testing.T) { // P1.1, P1.2
	for size, l := range valid() {
		for i, v := range l {
			if e := value.Check(v); e != api.OK {
				t.Errorf("Check of %d of size %d: %d", i, size, e)
			}
			if n, e := value.Size(v); n != size || e != api.OK {
				t.Errorf("Size of %d of size %d: %d, %d", i, size, n, e)
			}
		}
	}
}

func TestInvalidValues(t *testing.T) { // P1.1 to P1.3, P1.5, R2
	for i, v := range invalid() {
		if e := value.Check(v); e != api.ErrArg {
			t.Errorf("Check of %d: %d", i, e)
		}
		if n, e := value.Size(v); n != 0 || e != api.ErrArg {
			t.Errorf("Size of %d: %d, %d", i, n, e)
		}
		if s, e := value.Text(v); s != "" || e != api.ErrArg {
			t.Errorf("Text of %d: %q, %d", i, s, e)
		}
		if s, e := value.Key(v); s != "" || e != api.ErrArg {
			t.Errorf("Key of %d: %q, %d", i, s, e)
		}
		for _, pair := range [][2]api.Value{{v, num(0)}, {num(0), v}, {v, v}} {
			if n, e := value.Compare(pair[0], pair[1]); n != 0 || e != api.ErrArg {
				t.Errorf("Compare with %d: %d, %d", i, n, e)
			}
		}
		for _, u := range []api.Type{whole, letters, none, kind(api.TypeSum, whole), kind(api.TypeTuple, whole)} {
			if value.Is(v, u) {
				t.Errorf("%d is of %v", i, u)
			}
		}
	}
}

// invalidTypes lists types each of which breaks one rule.
func invalidTypes() []api.Type {
	four := []api.Type{rowType(8), rowType(8), rowType(8), rowType(8)}
	l := []api.Type{
		kind(api.TypeSum), kind(api.TypeInt, whole), kind(api.TypeText, none), kind(4), kind(-1), kind(1 << 62), kind(-1 << 63),
		rowType(9), kind(api.TypeSum, rowType(9).L...), rowType(1 << 16), towerType(7), towerType(100),
		itselfType(api.TypeTuple), itselfType(api.TypeSum), kind(api.TypeTuple, append(four, rowType(3))...),
	}
	for _, u := range l[:len(l):len(l)] {
		l = append(l, kind(api.TypeTuple, whole, u), kind(api.TypeSum, u))
	}
	return l
}

func TestTypes(t *testing.T) { // P1.1, P1.4, P1.5
	full := kind(api.TypeTuple, rowType(8), rowType(8), rowType(8), rowType(8), rowType(2))
	for i, u := range []api.Type{whole, letters, none, {Kind: api.TypeInt, L: []api.Type{}}, kind(api.TypeSum, none), rowType(8), kind(api.TypeSum, rowType(8).L...), typed, towerType(6), full} {
		if e := value.Type(u); e != api.OK {
			t.Errorf("Type of %d: %d", i, e)
		}
	}
	for i, u := range invalidTypes() {
		if e := value.Type(u); e != api.ErrArg {
			t.Errorf("Type of the invalid %d: %d", i, e)
		}
		if v, e := value.Least(u); !same(v, api.Value{}) || e != api.ErrArg {
			t.Errorf("Least of the invalid %d: %v, %d", i, v, e)
		}
		if s, e := value.TypeText(u); s != "" || e != api.ErrArg {
			t.Errorf("TypeText of the invalid %d: %q, %d", i, s, e)
		}
		for _, v := range []api.Value{num(0), text(""), tuple(), tuple(num(0), num(0)), tag(0, num(0)), row(8)} {
			if value.Is(v, u) {
				t.Errorf("%v is of the invalid %d", v, i)
			}
		}
	}
}

func TestIs(t *testing.T) { // P1.2
	sum := typed.L[3]
	for i, x := range []struct {
		v  api.Value
		u  api.Type
		is bool
	}{
		{sample, typed, true}, {sample, typed.L[0], false},
		{num(-7), whole, true}, {num(-7), letters, false}, {num(0), none, false}, {num(0), kind(api.TypeSum, whole), false},
		{text("int"), letters, true}, {text(""), whole, false}, {text(""), none, false},
		{tuple(), none, true}, {tuple(), whole, false}, {tuple(num(1)), none, false}, {tuple(), rowType(1), false},
		{row(8), rowType(8), true}, {row(7), rowType(8), false}, {row(8), rowType(7), false},
		{tuple(num(1), text("a")), kind(api.TypeTuple, whole, letters), true}, {tuple(text("a"), num(1)), kind(api.TypeTuple, whole, letters), false},
		{tag(0, text("")), sum, true}, {tag(1, tuple()), sum, true}, {tag(2, num(1)), sum, true},
		{tag(0, num(1)), sum, false}, {tag(1, text("")), sum, false}, {tag(3, num(1)), sum, false}, {tag(7, num(1)), sum, false},
		{num(0), sum, false}, {tuple(num(0)), kind(api.TypeSum, whole), false}, {tag(0, num(0)), rowType(1), false},
		{tuple(tag(0, tuple(num(1)))), kind(api.TypeTuple, kind(api.TypeSum, rowType(1))), true},
		{tuple(tag(0, tuple(text("")))), kind(api.TypeTuple, kind(api.TypeSum, rowType(1))), false},
	} {
		if value.Is(x.v, x.u) != x.is {
			t.Errorf("%d: Is is not %v", i, x.is)
		}
	}
}

func TestLeast(t *testing.T) { // P1.4
	for i, x := range []struct {
		u api.Type
		v api.Value
	}{
		{whole, num(api.WordLow)}, {letters, text("")}, {none, tuple()},
		{typed, tuple(num(api.WordLow), text(""), tuple(), tag(0, text("")))},
		{kind(api.TypeSum, kind(api.TypeSum, none, whole), whole), tag(0, tag(0, tuple()))},
		{rowType(2), tuple(num(api.WordLow), num(api.WordLow))},
	} {
		if v, e := value.Least(x.u); !same(v, x.v) || e != api.OK {
			t.Errorf("%d: %v, %d", i, v, e)
		}
	}
}

func TestCompare(t *testing.T) { // P1.3
	rising := []api.Value{
		num(api.WordLow), num(-256), num(-1), num(0), num(2), num(10), num(256), num(api.WordHigh),
		text(""), text(" "), text("\""), text("#"), text("1"), text("a"), text("a "), text("aa"), text("ab"), text("b"), text("z"), text("~"),
		tuple(), tuple(num(-1)), tuple(num(1)), tuple(num(1), num(0)), tuple(num(1), num(0), num(0)), tuple(num(1), num(1)), tuple(num(1), text("")), tuple(num(2)),
		tuple(text("")), tuple(text(""), num(0)), tuple(text("a")), tuple(tuple()), tuple(tuple(), num(0)), tuple(tuple(num(0))), tuple(tag(0, num(0))),
		tag(0, num(9)), tag(0, num(10)), tag(0, text("")), tag(0, tuple()), tag(0, tag(0, num(0))), tag(1, num(0)), tag(7, num(api.WordLow)),
	}
	for i, v := range rising {
		for k, w := range rising {
			want := min(1, max(-1, i-k))
			if n, e := value.Compare(v, w); n != want || e != api.OK {
				t.Errorf("Compare of %d and %d: %d, %d", i, k, n, e)
			}
		}
	}
}
