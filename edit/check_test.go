package edit_test

import (
	"strings"
	"testing"

	"deltaworks/api"
	"deltaworks/edit"
)

// outcome is what a call returned.
type outcome struct {
	edits []pieced
	list  []api.Value
	s     string
	n     int
	e     api.Errno
}

// isError reports whether a call returned just an error.
func (o outcome) isError(e api.Errno) bool {
	for _, x := range o.edits {
		if len(x) > 0 {
			return false
		}
	}
	return o.e == e && o.n == 0 && o.s == "" && len(o.list) == 0
}

func one(e pieced, err api.Errno) outcome { return outcome{edits: []pieced{e}, e: err} }

func two(e, f pieced, err api.Errno) outcome { return outcome{edits: []pieced{e, f}, e: err} }

// ofEdit lists all functions of an edit; a list that they are given, too, is not one of which the edit is.
func ofEdit() map[string]func(pieced) outcome {
	return map[string]func(pieced) outcome{
		"Check":  func(e pieced) outcome { return outcome{e: edit.Check(e)} },
		"Invert": func(e pieced) outcome { return one(edit.Invert(e)) },
		"Cost": func(e pieced) outcome {
			n, err := edit.Cost(e)
			return outcome{n: n, e: err}
		},
		"Apply": func(e pieced) outcome {
			l, err := edit.Apply(e, list("some list"))
			return outcome{list: l, e: err}
		},
		"Apply, a bad list": func(e pieced) outcome {
			l, err := edit.Apply(e, append(badValues(), many(300, "a")...))
			return outcome{list: l, e: err}
		},
	}
}

// ofEdits lists all functions of two edits.
func ofEdits() map[string]func(e, f pieced) outcome {
	return map[string]func(e, f pieced) outcome{
		"Compose": func(e, f pieced) outcome { return one(edit.Compose(e, f)) },
		"Cross":   func(e, f pieced) outcome { return two(edit.Cross(e, f)) },
	}
}

// bad is an edit with its error.
type bad struct {
	e   pieced
	err api.Errno
}

// badEdits lists edits that are not valid, or of too long lists, or make them.
func badEdits() []bad {
	a, b := num('a'), num('b')
	l := []bad{
		{pieces(keep(0)), api.ErrArg}, {pieces(keep(-1)), api.ErrArg}, {pieces(keep(-1 << 63)), api.ErrArg}, {pieces(keep(1), drop(a), keep(0)), api.ErrArg},
		{pieces(drop()), api.ErrArg}, {pieces(put()), api.ErrArg}, {pieces(api.EditPiece{Kind: api.EditDrop, L: []api.Value{}}), api.ErrArg},
		{pieces(api.EditPiece{Kind: api.EditKeep, N: 1, L: list("a")}), api.ErrArg}, {pieces(api.EditPiece{Kind: api.EditDrop, N: 1, L: list("a")}), api.ErrArg}, {pieces(api.EditPiece{Kind: api.EditPut, N: -1, L: list("a")}), api.ErrArg}, {pieces(api.EditPiece{Kind: api.EditPut, N: 1}), api.ErrArg},
		{pieces(api.EditPiece{Kind: 3, N: 1}), api.ErrArg}, {pieces(api.EditPiece{Kind: 3, L: list("a")}), api.ErrArg}, {pieces(api.EditPiece{Kind: -1, N: 1}), api.ErrArg}, {pieces(api.EditPiece{Kind: 1 << 62, N: 1}), api.ErrArg}, {pieces(api.EditPiece{Kind: -1 << 63, L: list("a")}), api.ErrArg}, {make(pieced, 5), api.ErrArg},
		{pieces(keep(1), keep(1)), api.ErrArg}, {pieces(drop(a), drop(b)), api.ErrArg}, {pieces(put(a), put(b)), api.ErrArg}, {pieces(put(a), drop(b)), api.ErrArg}, {told("=1 +x -b"), api.ErrArg}, {told("=1 +y -b =1"), api.ErrArg},
		{pieces(keep(301)), api.ErrLong}, {pieces(keep(1 << 62)), api.ErrLong}, {pieces(keep(1<<63 - 1)), api.ErrLong}, {pieces(keep(300), put(a)), api.ErrLong}, {pieces(keep(300), drop(a)), api.ErrLong}, {pieces(put(a), keep(300)), api.ErrLong},
		{pieces(drop(many(301, "a")...)), api.ErrLong}, {pieces(put(many(301, "a")...)), api.ErrLong}, {pieces(drop(a), put(many(301, "a")...)), api.ErrLong}, {pieces(drop(many(301, "a")...), put(a)), api.ErrLong}, {pieces(drop(many(150, "a")...), keep(100), drop(many(51, "a")...)), api.ErrLong}, {pieces(put(many(150, "a")...), keep(100), put(many(51, "a")...)), api.ErrLong},
		{pieces(keep(1<<62), put(a), keep(1<<62), put(a), keep(1<<62), put(a), keep(1<<62)), api.ErrLong}, {pieces(keep(1<<63-1), put(a), keep(1<<63-1), put(b), keep(2)), api.ErrLong},
		{pieces(keep(301), put(a), drop(a)), api.ErrArg}, {pieces(keep(1<<62), keep(1)), api.ErrArg}, {pieces(put(many(301, "a")...), keep(0)), api.ErrArg}, {pieces(put(append(many(301, "a"), num(1<<40))...)), api.ErrArg},
	}
	for _, v := range badValues() {
		l = append(l, bad{pieces(put(v)), api.ErrArg}, bad{pieces(drop(v)), api.ErrArg}, bad{pieces(drop(a), put(b), keep(2), drop(a, v)), api.ErrArg})
	}
	return l
}

func TestBadEdits(t *testing.T) { // P3.1 to P3.6, R1, R2
	for i, x := range badEdits() {
		for name, call := range ofEdit() {
			if o := call(x.e); !o.isError(x.err) {
				t.Errorf("%s of the bad edit %d: %v", name, i, o)
			}
		}
		for name, call := range ofEdits() {
			for k, f := range []pieced{nil, told("=1"), told("=2 +ab"), pieces(keep(300))} {
				if o := call(x.e, f); !o.isError(x.err) {
					t.Errorf("%s of the bad edit %d and the good one %d: %v", name, i, k, o)
				}
				if o := call(f, x.e); !o.isError(x.err) {
					t.Errorf("%s of the good edit %d and the bad one %d: %v", name, k, i, o)
				}
			}
		}
	}
}

func TestGoodEdits(t *testing.T) { // P3.1
	for i, x := range []struct {
		e    pieced
		cost int
	}{
		{nil, 0}, {pieced{}, 0}, {told("=1"), 0}, {pieces(keep(300)), 0}, {pieces(api.EditPiece{N: 2, L: []api.Value{}}), 0},
		{told("-a"), 1}, {told("+a"), 1}, {told("-a +b"), 2}, {told("-k +s =3 -e +i =1 +g"), 5}, {told("=1 -b +xy =1"), 3}, {told("+ab =1 -abc +d =1 -e"), 7}, {told("-aa +aa"), 4},
		{pieces(drop(many(300, "a")...), put(many(300, "b")...)), 600}, {pieces(drop(many(299, "a")...), put(many(299, "b")...), keep(1)), 598}, {pieces(drop(many(100, "a")...), keep(200), put(many(100, "b")...)), 200},
		{pieces(drop(values()...), put(values()...)), 2 * len(values())},
	} {
		if n, e := edit.Cost(x.e); n != x.cost || e != api.OK || edit.Check(x.e) != api.OK {
			t.Errorf("Cost %d: %d, %d", i, n, e)
		}
	}
}

// badLists lists lists that are not valid, or too long, with their errors.
func badLists() map[api.Errno][][]api.Value {
	m := map[api.Errno][][]api.Value{api.ErrLong: {many(301, "a"), make([]api.Value, 1<<20), append(many(300, "a"), num(1<<40)), append(badValues(), many(300, "a")...)}}
	for _, v := range badValues() {
		m[api.ErrArg] = append(m[api.ErrArg], []api.Value{v}, append(many(299, "a"), v))
	}
	return m
}

func TestBadLists(t *testing.T) { // P3.2, P3.3, P3.7, R1, R2
	for want, lists := range badLists() {
		for i, l := range lists {
			for _, m := range [][]api.Value{nil, list("abc"), many(300, "a")} {
				if o := one(edit.Diff(l, m)); !o.isError(want) {
					t.Errorf("Diff of the bad list %d and %d good values: %v", i, len(m), o)
				}
				if o := one(edit.Diff(m, l)); !o.isError(want) {
					t.Errorf("Diff of %d good values and the bad list %d: %v", len(m), i, o)
				}
			}
			for _, e := range []pieced{nil, told("=1"), pieces(keep(300))} {
				if m, err := edit.Apply(e, l); len(m) > 0 || err != want {
					t.Errorf("Apply to the bad list %d: %v, %d", i, m, err)
				}
			}
			if s, err := edit.OfChars(l); s != "" || err != want {
				t.Errorf("OfChars of the bad list %d: %q, %d", i, s, err)
			}
		}
	}
}

func TestFirstErrorDecides(t *testing.T) { // R1
	wrong, long := pieces(keep(0)), pieces(keep(301))
	for name, call := range ofEdits() {
		if o := call(wrong, long); !o.isError(api.ErrArg) {
			t.Errorf("%s of a wrong and a long edit: %v", name, o)
		}
		if o := call(long, wrong); !o.isError(api.ErrLong) {
			t.Errorf("%s of a long and a wrong edit: %v", name, o)
		}
	}
	bads, longs := badValues(), many(301, "a")
	if o := one(edit.Diff(bads, longs)); !o.isError(api.ErrArg) {
		t.Errorf("Diff of a bad and a long list: %v", o)
	}
	if o := one(edit.Diff(longs, bads)); !o.isError(api.ErrLong) {
		t.Errorf("Diff of a long and a bad list: %v", o)
	}
	if _, e := edit.Apply(wrong, longs); e != api.ErrArg {
		t.Errorf("Apply of a wrong edit to a long list: %d", e)
	}
	if _, e := edit.Apply(long, bads); e != api.ErrLong {
		t.Errorf("Apply of a long edit to a bad list: %d", e)
	}
}

func TestChars(t *testing.T) { // P3.7
	var b []byte
	for c := byte(32); c <= 126; c++ {
		b = append(b, c)
	}
	for _, s := range []string{"", " ", "~", "a ~", "\"\\", string(b), strings.Repeat("~", 300)} {
		l, e := edit.Chars(s)
		if !same(l, list(s)) || e != api.OK {
			t.Errorf("Chars of %q: %v, %d", s, l, e)
		}
		if x, e := edit.OfChars(list(s)); x != s || e != api.OK {
			t.Errorf("OfChars of %q: %q, %d", s, x, e)
		}
	}
	for s, want := range map[string]api.Errno{
		"\n": api.ErrArg, "\x1f": api.ErrArg, "\x7f": api.ErrArg, "a\x00": api.ErrArg, "ä": api.ErrArg, "\xff": api.ErrArg, strings.Repeat("a", 299) + "\x80": api.ErrArg,
		strings.Repeat("a", 301): api.ErrLong, strings.Repeat("\n", 301): api.ErrLong, strings.Repeat("a", 1<<20): api.ErrLong,
	} {
		if l, e := edit.Chars(s); len(l) > 0 || e != want {
			t.Errorf("Chars of %.20q: %v, %d", s, l, e)
		}
	}
	for i, v := range []api.Value{num(31), num(127), num(-1), num(0), num('a' + 256), num(api.WordLow), num(api.WordHigh), text("a"), text(""), tuple(), tuple(num('a')), tag(2, num('a'))} {
		for _, l := range [][]api.Value{{v}, append(list("ab"), v), append(many(299, "a"), v)} {
			if s, e := edit.OfChars(l); s != "" || e != api.ErrArg {
				t.Errorf("OfChars with the value %d: %q, %d", i, s, e)
			}
		}
	}
}
