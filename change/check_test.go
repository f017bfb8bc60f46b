package change_test

import (
	"slices"
	"strings"
	"testing"

	"deltaworks/api"
	"deltaworks/change"
)

// outcome is what a call returned.
type outcome struct {
	is bool
	d  api.Data
	c  api.Change
	e  api.Errno
}

func isSo(is bool, e api.Errno) outcome         { return outcome{is: is, e: e} }
func data(d api.Data, e api.Errno) outcome      { return outcome{d: d, e: e} }
func changed(c api.Change, e api.Errno) outcome { return outcome{c: c, e: e} }

// calls lists all functions, of a type, two data and two changes; each function that takes two is there twice.
func calls(ty api.DataType, d, d2 api.Data, c, c2 api.Change) map[string]outcome {
	return map[string]outcome{
		"Check": {e: change.Check(ty)}, "Is": isSo(change.Is(ty, d)), "Fits": isSo(change.Fits(ty, c)), "Empty": data(change.Empty(ty)), "None": changed(change.None(ty)),
		"Apply": data(change.Apply(ty, d, c)), "Invert": changed(change.Invert(ty, c)), "Diff": changed(change.Diff(ty, d, d2)), "Diff back": changed(change.Diff(ty, d2, d)),
		"Compose": changed(change.Compose(ty, c, c2)), "Compose back": changed(change.Compose(ty, c2, c)), "Merge": changed(change.Merge(ty, c, c2)), "Merge back": changed(change.Merge(ty, c2, c)),
	}
}

// badTypes lists types of values that are not valid.
func badTypes() []api.Type {
	itself := api.Type{Kind: api.TypeTuple, L: make([]api.Type, 1)}
	itself.L[0] = itself
	return []api.Type{{Kind: 4}, {Kind: -1}, {Kind: api.TypeSum}, {L: make([]api.Type, 1)}, {Kind: api.TypeTuple, L: make([]api.Type, 9)}, itself}
}

// badDataTypes lists types of data that are not valid.
func badDataTypes() []api.DataType {
	count := kind(api.DataCount)
	itself := tuples(count, count)
	itself.L[1] = itself
	loop := api.DataType{Kind: api.DataMap, L: make([]api.DataType, 1)}
	loop.L[0] = loop
	six := tuples(tuples(tuples(tuples(tuples(tuples())))))
	l := []api.DataType{kind(8), kind(-1), kind(1 << 62), kind(-1 << 63), kind(api.DataMap), {Kind: api.DataMap, L: []api.DataType{count, count}}, itself, loop, six, tuples(count, mapsOf(mapsOf(mapsOf(mapsOf(count))))), tuples(slices.Repeat([]api.DataType{count}, 9)...), tuples(make([]api.DataType, 1<<20)...)}
	for k := api.DataValue; k < api.DataTuple; k++ {
		l = append(l, api.DataType{Kind: k, L: []api.DataType{count}})
	}
	for _, k := range []int{api.DataValue, api.DataList, api.DataBag, api.DataSet} {
		for _, bad := range badTypes() {
			l = append(l, of(k, bad), tuples(count, of(k, bad)))
		}
	}
	for _, bad := range badTypes() {
		m := mapsOf(count)
		m.T = bad
		l = append(l, m, mapsOf(m))
	}
	return append(l, tuples(wide(6), wide(6), wide(5)), tuples(wide(8), wide(8), wide(1)), tuples(tuples(), wide(8), wide(8), tuples()), tuples(slices.Repeat([]api.DataType{wide(8)}, 8)...))
}

// wide returns a tuple of n counts.
func wide(n int) api.DataType {
	return tuples(slices.Repeat([]api.DataType{kind(api.DataCount)}, n)...)
}

// goodTypes lists types that are valid, with all that is not looked at.
func goodTypes() []api.DataType {
	bad := api.Type{Kind: 9}
	return []api.DataType{
		kind(api.DataValue), kind(api.DataCount), kind(api.DataText), kind(api.DataList), kind(api.DataBag), kind(api.DataSet), tuples(), all(), nested(), of(api.DataBag, pairType()), of(api.DataValue, sumType()), textMaps(kind(api.DataText)),
		of(api.DataCount, bad), of(api.DataText, bad), of(api.DataTuple, bad), {Kind: api.DataTuple, L: []api.DataType{of(api.DataText, bad)}}, {Kind: api.DataCount, L: []api.DataType{}},
		tuples(tuples(tuples(tuples(tuples())))), mapsOf(mapsOf(mapsOf(mapsOf(kind(api.DataCount))))), wide(8), tuples(wide(6), wide(6), wide(4)), tuples(wide(8), wide(8), kind(api.DataCount)), tuples(tuples(), wide(8), wide(8)),
	}
}

func TestCheck(t *testing.T) { // P4.1
	for i, ty := range goodTypes() {
		if e := change.Check(ty); e != api.OK {
			t.Errorf("Check of the good type %d: %d", i, e)
		}
	}
	for i, ty := range badDataTypes() {
		for name, o := range calls(ty, counted(1), counted(2), added(1), added(2)) {
			if !same(o, outcome{e: api.ErrArg}) {
				t.Errorf("%s of the bad type %d: %v", name, i, o)
			}
		}
	}
}

// sample is a datum and a change of a type that are valid, and the names of the fields, besides Kind, that their kind names.
type sample struct {
	ty       api.DataType
	d        api.Data
	c        api.Change
	ofD, ofC string
}

// samples lists one of each kind.
func samples() []sample {
	return []sample{
		{kind(api.DataValue), valued(5), turned(5, 6), "V", "N Old New"}, {kind(api.DataValue), valued(5), api.Change{}, "V", "N"},
		{kind(api.DataCount), counted(5), added(6), "N", "N"}, {kind(api.DataText), texted("ab"), typed("=1 -b"), "S", "Edit"}, {kind(api.DataList), listed("ab"), edited("=1 -b"), "List", "Edit"},
		{kind(api.DataBag), bagged(rows(1, 5)), summed(rows(2, -3)), "Rows", "Rows"}, {kind(api.DataSet), setted(rows(1, 1)), flipped(rows(1, -1)), "Rows", "Rows"},
		{tuples(kind(api.DataCount)), tupled(counted(1)), parted(added(2)), "L", "L"}, {tuples(), tupled(), parted(), "L", "L"}, {mapsOf(kind(api.DataCount)), mapped(1, counted(5)), keyed(in(1, added(2))), "Keys L", "Keys"}, {mapsOf(kind(api.DataCount)), mapped(), keyed(), "Keys L", "Keys"},
	}
}

// dataFields and changeFields put something in a field.
func dataFields() map[string]func(*api.Data) {
	return map[string]func(*api.Data){
		"N": func(d *api.Data) { d.N = 1 }, "V": func(d *api.Data) { d.V = num(1) }, "S": func(d *api.Data) { d.S = "x" }, "List": func(d *api.Data) { d.List = nums(1) }, "Rows": func(d *api.Data) { d.Rows = rows(7, 1) },
		"Keys": func(d *api.Data) { d.Keys = nums(7) }, "L": func(d *api.Data) { d.L = []api.Data{counted(1)} },
	}
}

func changeFields() map[string]func(*api.Change) {
	return map[string]func(*api.Change){
		"N": func(c *api.Change) { c.N = 1 }, "Old": func(c *api.Change) { c.Old = num(1) }, "New": func(c *api.Change) { c.New = text("") }, "Edit": func(c *api.Change) { c.Edit = told("+a") }, "Rows": func(c *api.Change) { c.Rows = rows(7, 1) },
		"L": func(c *api.Change) { c.L = []api.Change{added(1)} }, "Keys": func(c *api.Change) { c.Keys = []api.KeyChange{put(7, counted(1))} },
	}
}

// wrongKinds returns all kinds but one.
func wrongKinds(k int) []int {
	return slices.DeleteFunc([]int{0, 1, 2, 3, 4, 5, 6, 7, 8, -1}, func(n int) bool { return n == k })
}

func TestOtherFields(t *testing.T) { // P4.1: all fields that a kind does not name are empty
	for i, x := range samples() {
		if is, e := change.Is(x.ty, x.d); !is || e != api.OK {
			t.Errorf("Is %d: %v, %d", i, is, e)
		}
		if fits, e := change.Fits(x.ty, x.c); !fits || e != api.OK {
			t.Errorf("Fits %d: %v, %d", i, fits, e)
		}
		for name, fill := range dataFields() {
			d := x.d
			fill(&d)
			if is, _ := change.Is(x.ty, d); is && !slices.Contains(strings.Fields(x.ofD), name) {
				t.Errorf("Is %d, with %s", i, name)
			}
		}
		for name, fill := range changeFields() {
			c := x.c
			fill(&c)
			if fits, _ := change.Fits(x.ty, c); fits && !slices.Contains(strings.Fields(x.ofC), name) {
				t.Errorf("Fits %d, with %s", i, name)
			}
		}
		for _, k := range wrongKinds(x.ty.Kind) {
			d, c := x.d, x.c
			d.Kind, c.Kind = k, k
			if is, _ := change.Is(x.ty, d); is {
				t.Errorf("Is %d, with the kind %d", i, k)
			}
			if fits, _ := change.Fits(x.ty, c); fits {
				t.Errorf("Fits %d, with the kind %d", i, k)
			}
		}
	}
}

func TestOtherFieldsOfKeys(t *testing.T) { // P4.1: Change of KeyPut and KeyDrop, and Data of KeyIn
	ty := mapsOf(kind(api.DataCount))
	for name, fill := range changeFields() {
		for _, x := range []api.KeyChange{put(1, counted(5)), drop(1, counted(5))} {
			fill(&x.Change)
			if fits, e := change.Fits(ty, keyed(x)); fits || e != api.OK {
				t.Errorf("%v, with %s: %v, %d", x, name, fits, e)
			}
			x.Change = api.Change{Kind: api.DataCount}
			if fits, e := change.Fits(ty, keyed(x)); fits || e != api.OK {
				t.Errorf("%v, with a kind: %v, %d", x, fits, e)
			}
		}
	}
	for name, fill := range dataFields() {
		x := in(1, added(5))
		fill(&x.Data)
		if fits, e := change.Fits(ty, keyed(x)); fits || e != api.OK {
			t.Errorf("%v, with %s: %v, %d", x, name, fits, e)
		}
		x.Data = api.Data{Kind: api.DataCount}
		if fits, e := change.Fits(ty, keyed(x)); fits || e != api.OK {
			t.Errorf("%v, with a kind: %v, %d", x, fits, e)
		}
	}
}

// badValues lists values that are not valid.
func badValues() []api.Value {
	itself := tuple(make([]api.Value, 1)...)
	itself.L[0] = itself
	return []api.Value{num(1 << 40), {S: "a"}, {Kind: 4}, text("\n"), tagged(8, num(1)), itself}
}

// notWords lists values that are no words.
func notWords() []api.Value {
	return append(badValues(), text("1"), tuple(), tuple(num(1)), tagged(0, num(1)))
}

func TestIs(t *testing.T) { // P4.1
	pairs := of(api.DataBag, pairType())
	bags := kind(api.DataBag)
	for i, x := range []struct {
		ty api.DataType
		d  api.Data
		is bool
	}{
		{kind(api.DataValue), valued(api.WordLow), true}, {of(api.DataValue, sumType()), api.Data{V: tagged(1, text("a"))}, true}, {of(api.DataValue, sumType()), api.Data{V: tagged(1, num(1))}, false}, {of(api.DataValue, textType()), valued(1), false},
		{kind(api.DataCount), counted(api.WordHigh), true}, {kind(api.DataCount), counted(api.WordLow), true}, {kind(api.DataCount), counted(api.WordHigh + 1), false}, {kind(api.DataCount), counted(api.WordLow - 1), false}, {kind(api.DataCount), counted(1 << 32), false},
		{kind(api.DataText), texted(""), true}, {kind(api.DataText), texted(" ~"), true}, {kind(api.DataText), texted("a\x1f"), false}, {kind(api.DataText), texted("\x7f"), false}, {kind(api.DataText), texted(strings.Repeat("a", 300)), true}, {kind(api.DataText), texted(strings.Repeat("a", 301)), false},
		{kind(api.DataList), listed(""), true}, {kind(api.DataList), listed(strings.Repeat("a", 300)), true}, {kind(api.DataList), listed(strings.Repeat("a", 301)), false}, {of(api.DataList, textType()), api.Data{Kind: api.DataList, List: []api.Value{text("b"), text("a"), text("a")}}, true}, {of(api.DataList, textType()), listed("ab"), false},
		{bags, bagged(rows()), true}, {bags, bagged(rows(1, -1, 2, 1<<62, 3, -1<<63)), true}, {bags, bagged(rows(1, 0)), false}, {bags, bagged(rows(1, 1, 1, 1)), false}, {bags, bagged(rows(2, 1, 1, 1)), false}, {bags, bagged(many(0, 3999, 1)), true}, {bags, bagged(many(0, 4000, 1)), false}, {bags, bagged(many(0, 4001, 1)), false}, {bags, bagged(many(0, 20001, 1)), false},
		{pairs, bagged(rows(1, 1)), false}, {pairs, bagged(api.Zset{{Row: tuple(num(1), text("a")), N: 2}}), true}, {pairs, bagged(api.Zset{{Row: tuple(num(1), text("a")), N: 2}, {Row: tuple(num(2)), N: 2}}), false},
		{kind(api.DataSet), setted(rows()), true}, {kind(api.DataSet), setted(rows(1, 1, 2, 1)), true}, {kind(api.DataSet), setted(rows(1, 1, 2, 2)), false}, {kind(api.DataSet), setted(rows(1, -1)), false}, {kind(api.DataSet), setted(many(0, 3999, 1)), true}, {kind(api.DataSet), setted(many(0, 4000, 1)), false}, {kind(api.DataSet), setted(rows(1, 1, 1, 1)), false},
		{tuples(), tupled(), true}, {tuples(), tupled(counted(1)), false}, {tuples(kind(api.DataCount)), tupled(), false}, {tuples(kind(api.DataCount)), tupled(counted(1), counted(1)), false}, {tuples(kind(api.DataCount), kind(api.DataText)), tupled(texted("a"), counted(1)), false}, {tuples(kind(api.DataCount)), tupled(counted(1 << 31)), false},
		{tuples(bags, bags), tupled(bagged(many(0, 3000, 1)), bagged(many(0, 997, 1))), true}, {tuples(bags, bags), tupled(bagged(many(0, 3000, 1)), bagged(many(0, 998, 1))), false},
		{nested(), mapped(), true}, {nested(), mapped(1, mapped(), 2, mapped(5, counted(1))), true}, {nested(), mapped(1, mapped(5, texted("a"))), false}, {nested(), mapped(2, mapped(), 1, mapped()), false}, {nested(), mapped(1, mapped(), 1, mapped()), false}, {nested(), mapped(1, mapped(5, counted(1), 4, counted(1))), false}, {nested(), mapped(1, counted(1)), false},
		{mapsOf(bags), mapped(1, bagged(many(0, 3997, 1))), true}, {mapsOf(bags), mapped(1, bagged(many(0, 3998, 1))), false}, {mapsOf(bags), mapped(1, bagged(many(0, 2000, 1)), 2, bagged(many(0, 1995, 1))), true}, {mapsOf(bags), mapped(1, bagged(many(0, 2000, 1)), 2, bagged(many(0, 1996, 1))), false},
		{mapsOf(kind(api.DataCount)), api.Data{Kind: api.DataMap, Keys: nums(1), L: []api.Data{counted(1), counted(2)}}, false}, {mapsOf(kind(api.DataCount)), api.Data{Kind: api.DataMap, Keys: nums(1, 2), L: []api.Data{counted(1)}}, false}, {mapsOf(kind(api.DataCount)), api.Data{Kind: api.DataMap, L: []api.Data{counted(1)}}, false}, {textMaps(kind(api.DataCount)), mapped(1, counted(1)), false}, {textMaps(kind(api.DataCount)), api.Data{Kind: api.DataMap, Keys: []api.Value{text("a"), text("aa")}, L: []api.Data{counted(1), counted(1)}}, true},
		{mapsOf(kind(api.DataCount)), countsAt(1999), true}, {mapsOf(kind(api.DataCount)), countsAt(2000), false},
		{mapsOf(kind(api.DataText)), longs(api.DataText, 71), true}, {mapsOf(kind(api.DataText)), longs(api.DataText, 72), false}, {mapsOf(kind(api.DataList)), longs(api.DataList, 71), true}, {mapsOf(kind(api.DataList)), longs(api.DataList, 72), false}, {mapsOf(kind(api.DataList)), longs(api.DataList, 0, 69), true}, {mapsOf(kind(api.DataList)), longs(api.DataList, 0, 70), false},
	} {
		if is, e := change.Is(x.ty, x.d); is != x.is || e != api.OK {
			t.Errorf("%d: %v, %d", i, is, e)
		}
	}
	for i, v := range notWords() {
		for k, x := range map[int]api.Data{api.DataValue: {V: v}, api.DataList: {List: []api.Value{num(1), v}}, api.DataBag: {Rows: api.Zset{{Row: num(0), N: 1}, {Row: v, N: 1}}}, api.DataSet: {Rows: api.Zset{{Row: v, N: 1}}}} {
			x.Kind = k
			if is, e := change.Is(kind(k), x); is || e != api.OK {
				t.Errorf("the kind %d, the value %d: %v, %d", k, i, is, e)
			}
		}
		if is, e := change.Is(mapsOf(kind(api.DataCount)), api.Data{Kind: api.DataMap, Keys: []api.Value{num(0), v}, L: []api.Data{counted(1), counted(1)}}); is || e != api.OK {
			t.Errorf("the key %d: %v, %d", i, is, e)
		}
	}
}

// countsAt returns a map of n counts.
func countsAt(n int) api.Data {
	d := api.Data{Kind: api.DataMap}
	for i := range n {
		d.Keys, d.L = append(d.Keys, num(i)), append(d.L, counted(i))
	}
	return d
}

func TestFits(t *testing.T) { // P4.1
	bags, count := kind(api.DataBag), mapsOf(kind(api.DataCount))
	keep := func(n int, more string) []api.EditPiece {
		return append([]api.EditPiece{{N: n}}, told(more)...)
	}
	for i, x := range []struct {
		ty   api.DataType
		c    api.Change
		fits bool
	}{
		{kind(api.DataValue), api.Change{}, true}, {kind(api.DataValue), turned(1, 1), false}, {kind(api.DataValue), turned(0, 1), true}, {kind(api.DataValue), api.Change{N: 1}, false}, {kind(api.DataValue), api.Change{N: 2, Old: num(1), New: num(2)}, false}, {kind(api.DataValue), api.Change{N: -1, Old: num(1), New: num(2)}, false}, {kind(api.DataValue), api.Change{Old: num(1), New: num(2)}, false}, {kind(api.DataValue), api.Change{N: 1, Old: num(1), New: text("a")}, false}, {kind(api.DataValue), api.Change{N: 1, Old: text("a"), New: num(1)}, false},
		{of(api.DataValue, textType()), api.Change{}, true}, {of(api.DataValue, textType()), api.Change{Old: text("")}, false}, {of(api.DataValue, textType()), api.Change{N: 1, Old: text(""), New: text("a")}, true}, {of(api.DataValue, textType()), turned(1, 2), false},
		{kind(api.DataCount), added(0), true}, {kind(api.DataCount), added(api.WordLow), true}, {kind(api.DataCount), added(api.WordHigh), true}, {kind(api.DataCount), added(1 << 31), false}, {kind(api.DataCount), added(api.WordLow - 1), false},
		{kind(api.DataText), typed(""), true}, {kind(api.DataText), typed("=1"), false}, {kind(api.DataText), typed("=1 =1 +a"), false}, {kind(api.DataText), typed("+a -b"), false}, {kind(api.DataText), typed("-a +a"), true}, {kind(api.DataText), typed("=0 +a"), false}, {kind(api.DataText), typed("- +a"), false}, {kind(api.DataText), api.Change{Kind: api.DataText, Edit: []api.EditPiece{{Kind: api.EditPut, L: nums(31)}}}, false}, {kind(api.DataText), api.Change{Kind: api.DataText, Edit: []api.EditPiece{{Kind: api.EditPut, L: nums(65, 127)}}}, false}, {kind(api.DataText), api.Change{Kind: api.DataText, Edit: []api.EditPiece{{Kind: api.EditDrop, L: nums(31)}}}, false}, {kind(api.DataText), api.Change{Kind: api.DataText, Edit: []api.EditPiece{{Kind: api.EditDrop, L: []api.Value{text("a")}}}}, false},
		{kind(api.DataText), api.Change{Kind: api.DataText, Edit: keep(299, "+a")}, true}, {kind(api.DataText), api.Change{Kind: api.DataText, Edit: keep(300, "+a")}, false}, {kind(api.DataText), api.Change{Kind: api.DataText, Edit: keep(299, "-a +b")}, true}, {kind(api.DataText), api.Change{Kind: api.DataText, Edit: keep(300, "-a")}, false}, {kind(api.DataText), api.Change{Kind: api.DataText, Edit: keep(300, "")}, false},
		{kind(api.DataList), edited(""), true}, {kind(api.DataList), edited("=3"), false}, {kind(api.DataList), edited("=1 -ab +c"), true}, {kind(api.DataList), api.Change{Kind: api.DataList, Edit: []api.EditPiece{{Kind: api.EditPut, L: nums(31, -7)}}}, true}, {kind(api.DataList), api.Change{Kind: api.DataList, Edit: keep(300, "+a")}, false}, {of(api.DataList, textType()), edited("+a"), false}, {of(api.DataList, textType()), edited("-a"), false}, {of(api.DataList, textType()), api.Change{Kind: api.DataList, Edit: []api.EditPiece{{N: 3}, {Kind: api.EditDrop, L: []api.Value{text("x")}}}}, true}, {kind(api.DataList), api.Change{Kind: api.DataList, Edit: []api.EditPiece{{Kind: 3, N: 1}}}, false},
		{bags, summed(nil), true}, {bags, summed(rows(1, -5, 2, 1<<40)), true}, {bags, summed(rows(1, 0)), false}, {bags, summed(rows(2, 1, 1, 1)), false}, {bags, summed(many(0, 4000, -1)), true}, {bags, summed(many(0, 4001, -1)), false}, {of(api.DataBag, textType()), summed(rows(1, 1)), false},
		{kind(api.DataSet), flipped(nil), true}, {kind(api.DataSet), flipped(rows(1, 1, 2, -1)), true}, {kind(api.DataSet), flipped(rows(1, 2)), false}, {kind(api.DataSet), flipped(rows(1, 1, 2, -2)), false}, {kind(api.DataSet), flipped(rows(1, 0)), false}, {kind(api.DataSet), flipped(rows(2, 1, 1, 1)), false}, {kind(api.DataSet), flipped(many(0, 4000, 1)), true}, {kind(api.DataSet), flipped(many(0, 4001, 1)), false}, {of(api.DataSet, textType()), flipped(rows(1, 1)), false},
		{tuples(), parted(), true}, {tuples(), parted(added(1)), false}, {tuples(kind(api.DataCount)), parted(), false}, {tuples(kind(api.DataCount)), parted(added(0)), true}, {tuples(kind(api.DataCount)), parted(added(0), added(0)), false}, {tuples(kind(api.DataCount), bags), parted(summed(nil), added(0)), false}, {tuples(bags, bags), parted(summed(many(0, 4000, 1)), summed(many(0, 4000, 1))), true}, {tuples(bags, bags), parted(summed(nil), summed(many(0, 4001, 1))), false},
		{count, keyed(), true}, {count, keyed(put(1, counted(1)), drop(2, counted(2)), in(3, added(1))), true}, {count, keyed(put(2, counted(1)), put(1, counted(1))), false}, {count, keyed(put(1, counted(1)), drop(1, counted(1))), false}, {count, keyed(put(1, texted(""))), false}, {count, keyed(drop(1, counted(1<<31))), false}, {count, keyed(in(1, added(0))), false}, {count, keyed(in(1, added(1<<31))), false}, {count, keyed(in(1, typed("+a"))), false}, {count, keyed(api.KeyChange{Key: num(1), Op: 3, Data: counted(1)}), false}, {count, keyed(api.KeyChange{Key: num(1), Op: -1, Data: counted(1)}), false}, {count, keyed(api.KeyChange{Key: num(1), Op: 3, Change: added(1)}), false}, {textMaps(kind(api.DataCount)), keyed(put(1, counted(1))), false},
		{count, keyed(puts(0, 4000, counted(1))...), true}, {count, keyed(puts(0, 4001, counted(1))...), false}, {nested(), keyed(in(1, keyed(puts(0, 4000, counted(1))...)), in(2, keyed(puts(0, 4000, counted(1))...))), true}, {nested(), keyed(in(1, keyed(puts(0, 4001, counted(1))...))), false}, {nested(), keyed(in(1, keyed())), false}, {nested(), keyed(put(1, mapped())), true}, {nested(), keyed(in(1, keyed(in(1, added(0))))), false},
		{mapsOf(bags), keyed(put(1, bagged(many(0, 3999, 1)))), true}, {mapsOf(bags), keyed(put(1, bagged(many(0, 4000, 1)))), false}, {mapsOf(bags), keyed(drop(1, bagged(many(0, 4000, 1)))), false}, {mapsOf(bags), keyed(in(1, summed(many(0, 4000, 1)))), true}, {mapsOf(bags), keyed(in(1, summed(many(0, 4001, 1)))), false}, {mapsOf(tuples()), keyed(in(1, parted())), false}, {mapsOf(tuples()), keyed(put(1, tupled())), true}, {mapsOf(tuples(kind(api.DataText))), keyed(in(1, parted(typed("")))), false},
	} {
		if fits, e := change.Fits(x.ty, x.c); fits != x.fits || e != api.OK {
			t.Errorf("%d: %v, %d", i, fits, e)
		}
	}
	for i, v := range notWords() {
		for k, x := range map[int]api.Change{api.DataValue: {N: 1, Old: num(7), New: v}, api.DataList: {Edit: []api.EditPiece{{Kind: api.EditPut, L: []api.Value{v}}}}, api.DataBag: {Rows: api.Zset{{Row: v, N: 1}}}, api.DataSet: {Rows: api.Zset{{Row: v, N: 1}}}} {
			x.Kind = k
			if fits, e := change.Fits(kind(k), x); fits || e != api.OK {
				t.Errorf("the kind %d, the value %d: %v, %d", k, i, fits, e)
			}
		}
		for _, x := range []api.KeyChange{put(0, counted(1)), drop(0, counted(1)), in(0, added(1))} {
			x.Key = v
			if fits, e := change.Fits(count, keyed(x)); fits || e != api.OK {
				t.Errorf("the key %d: %v, %d", i, fits, e)
			}
		}
	}
}

func TestBadArguments(t *testing.T) { // P4.3 to P4.7, R1, R2: data and changes must be of the type
	for i, x := range samples() {
		good := calls(x.ty, x.d, x.d, x.c, x.c)
		for _, k := range wrongKinds(x.ty.Kind) {
			badD, badC := x.d, x.c
			badD.Kind, badC.Kind = k, k
			for name, o := range calls(x.ty, badD, x.d, x.c, x.c) {
				want := good[name]
				switch name {
				case "Apply", "Diff", "Diff back":
					want = outcome{e: api.ErrArg}
				case "Is":
					want = outcome{}
				}
				if !same(o, want) {
					t.Errorf("%s %d of bad data: %v", name, i, o)
				}
			}
			for name, o := range calls(x.ty, x.d, x.d, badC, x.c) {
				want := good[name]
				switch name {
				case "Apply", "Invert", "Compose", "Compose back", "Merge", "Merge back":
					want = outcome{e: api.ErrArg}
				case "Fits":
					want = outcome{}
				}
				if !same(o, want) {
					t.Errorf("%s %d of a bad change: %v", name, i, o)
				}
			}
		}
	}
}

func TestMemoryWithinItself(t *testing.T) { // P1
	d := mapped(1, mapped())
	d.L[0] = d
	long := tupled(make([]api.Data, 8)...)
	for i := range long.L {
		long.L[i] = long
	}
	c := keyed(in(1, keyed()), in(2, keyed()))
	c.Keys[0].Change, c.Keys[1].Change = c, c
	p := parted(make([]api.Change, 2)...)
	p.L[0], p.L[1] = p, p
	for _, ty := range append(goodTypes(), mapsOf(mapsOf(mapsOf(mapsOf(tuples())))), tuples(tuples(), tuples())) {
		for _, d := range []api.Data{d, long} {
			for _, c := range []api.Change{c, p} {
				for name, o := range calls(ty, d, d, c, c) {
					if o.is || o.e == api.OK && strings.Contains("Apply Diff Invert Compose Merge", name) {
						t.Errorf("%s of %v: %v", name, ty, o)
					}
				}
			}
		}
	}
}
