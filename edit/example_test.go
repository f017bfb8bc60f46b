package edit_test

import (
	"testing"

	"deltaworks/api"
	"deltaworks/edit"
)

func TestDiff(t *testing.T) { // P3.2
	for _, x := range []struct{ a, b, want string }{
		{"abcd", "acxd", "=1 -b =1 +x =1"}, {"ab", "ba", "-a =1 +a"}, {"", "ab", "+ab"}, {"ab", "", "-ab"}, {"ab", "ab", "=2"}, {"", "", ""}, {"kitten", "sitting", "-k +s =3 -e +i =1 +g"},
		{"abcabba", "cbabac", "-ab =1 -a =1 +a =2 +c"}, {"xay", "zaw", "-x +z =1 -y +w"}, {"abc", "xyz", "-abc +xyz"}, {"a", "aa", "=1 +a"}, {"aa", "a", "=1 -a"}, {"aba", "a", "=1 -ba"}, {"ba", "aa", "-b =1 +a"},
		{"abab", "baba", "-a =3 +a"}, {"xaxb", "bxax", "+b =3 -b"}, {"abcdef", "azced", "=1 -b +z =1 -d =1 -f +d"}, {"ab", "xaxbx", "+x =1 +x =1 +x"}, {"aXbYc", "abc", "=1 -X =1 -Y =1"},
	} {
		if e, err := edit.Diff(list(x.a), list(x.b)); !alike(e, told(x.want)) || err != api.OK {
			t.Errorf("%s to %s: %v, %d", x.a, x.b, e, err)
		}
	}
}

func TestDiffOfAllValues(t *testing.T) { // P3.2
	l := values()
	for i, v := range l {
		for k, w := range l {
			want := pieces(drop(v), put(w))
			if i == k {
				want = pieces(keep(1))
			}
			if e, err := edit.Diff([]api.Value{v}, []api.Value{w}); !alike(e, want) || err != api.OK {
				t.Errorf("%v to %v: %v, %d", v, w, e, err)
			}
		}
	}
	back := append(copiedList(l[3:]), l[:3]...)
	want := pieces(drop(l[:3]...), keep(len(l)-3), put(l[:3]...))
	if e, err := edit.Diff(l, back); !alike(e, want) || err != api.OK {
		t.Errorf("all: %v, %d", e, err)
	}
	if e, err := edit.Diff([]api.Value{{Kind: api.ValueTuple, L: []api.Value{}}}, []api.Value{tuple()}); !alike(e, pieces(keep(1))) || err != api.OK {
		t.Errorf("nothing in two ways: %v, %d", e, err)
	}
}

func TestDiffOfLongLists(t *testing.T) { // P3.2, R7
	a, b := many(300, "a"), many(300, "b")
	var rising, falling []api.Value
	for i := range 300 {
		rising, falling = append(rising, num(i)), append(falling, num(299-i))
	}
	for i, x := range []struct {
		a, b []api.Value
		want pieced
	}{
		{a, b, pieces(drop(a...), put(b...))}, {a, a, pieces(keep(300))}, {a, nil, pieces(drop(a...))}, {nil, b, pieces(put(b...))},
		{rising, falling, pieces(drop(rising[:299]...), keep(1), put(falling[1:]...))}, {rising, append(copiedList(rising[1:]), rising[0]), pieces(drop(num(0)), keep(299), put(num(0)))},
	} {
		e, err := edit.Diff(x.a, x.b)
		l, f := edit.Apply(e, x.a)
		if !alike(e, x.want) || err != api.OK || !same(l, x.b) || f != api.OK {
			t.Errorf("%d: %v, %d, %d", i, e, err, f)
		}
	}
}

func TestApply(t *testing.T) { // P3.3
	for i, x := range []struct {
		e, a, want string
		err        api.Errno
	}{
		{"=1 -b", "abc", "", api.ErrState}, {"=1 -b", "ab", "a", api.OK}, {"=1 -b", "ac", "", api.ErrState}, {"=1 -b", "a", "", api.ErrState}, {"=1 -b", "", "", api.ErrState},
		{"", "", "", api.OK}, {"", "a", "", api.ErrState}, {"+xy", "", "xy", api.OK}, {"+xy", "a", "", api.ErrState}, {"-a +x =2 +y", "abc", "xbcy", api.OK}, {"-a +x =2 +y", "abcd", "", api.ErrState}, {"-a +x =2 +y", "ab", "", api.ErrState}, {"-a +x =2 +y", "bbc", "", api.ErrState},
		{"=3", "abc", "abc", api.OK}, {"=3", "ab", "", api.ErrState}, {"=2", "abc", "", api.ErrState}, {"-abc", "abc", "", api.OK}, {"-abc", "acb", "", api.ErrState}, {"-ab", "abb", "", api.ErrState}, {"-abb", "ab", "", api.ErrState}, {"-ab +ab", "ab", "ab", api.OK}, {"=1 +b =1 -c +de =1", "abcf", "abbdef", api.OK},
	} {
		if l, err := edit.Apply(told(x.e), list(x.a)); !same(l, list(x.want)) || err != x.err {
			t.Errorf("%d: %v, %d", i, l, err)
		}
	}
	long := many(300, "a")
	if l, err := edit.Apply(pieces(drop(long...), put(many(300, "b")...)), long); !same(l, many(300, "b")) || err != api.OK {
		t.Errorf("300 values: %v, %d", l, err)
	}
	if l, err := edit.Apply(pieces(keep(300)), long); !same(l, long) || err != api.OK {
		t.Errorf("300 values kept: %v, %d", l, err)
	}
	for i, v := range values() { // a value of which only a field, or a part, is another one is not the same
		for k, w := range values() {
			want := api.ErrState
			if i == k {
				want = api.OK
			}
			if l, err := edit.Apply(pieces(drop(v)), []api.Value{w}); len(l) > 0 || err != want {
				t.Errorf("%v dropped from %v: %v, %d", v, w, l, err)
			}
		}
	}
}

func TestInvert(t *testing.T) { // P3.4
	for i, x := range []struct{ e, want string }{
		{"-k +s =3 -e +i =1 +g", "-s +k =3 -i +e =1 -g"}, {"", ""}, {"=5", "=5"}, {"-ab", "+ab"}, {"+ab", "-ab"}, {"-abc +d", "-d +abc"}, {"=1 -b =1 +x =1", "=1 +b =1 -x =1"},
	} {
		if e, err := edit.Invert(told(x.e)); !alike(e, told(x.want)) || err != api.OK {
			t.Errorf("%d: %v, %d", i, e, err)
		}
	}
	e, err := edit.Invert(pieces(drop(many(300, "a")...), put(many(299, "b")...)))
	if !alike(e, pieces(drop(many(299, "b")...), put(many(300, "a")...))) || err != api.OK {
		t.Errorf("300 values: %v, %d", e, err)
	}
}

func TestCompose(t *testing.T) { // P3.5
	for i, x := range []struct {
		e, f, want string
		err        api.Errno
	}{
		{"=1 -b +xy =1", "-a =1 -y =1", "-ab +x =1", api.OK}, {"+ab", "-ab", "", api.OK}, {"+a", "-b", "", api.ErrState}, {"", "", "", api.OK},
		{"=2", "=1", "", api.ErrState}, {"=1", "=2", "", api.ErrState}, {"=1", "", "", api.ErrState}, {"", "=1", "", api.ErrState}, {"", "-a", "", api.ErrState}, {"+a", "", "", api.ErrState}, {"-a", "=1", "", api.ErrState}, {"-a", "", "-a", api.OK}, {"", "+a", "+a", api.OK}, {"-a", "+b", "-a +b", api.OK}, {"=1 +a", "=1", "", api.ErrState}, {"=1 -a", "=2", "", api.ErrState},
		{"-a =1", "+x =1 +y", "-a +x =1 +y", api.OK}, {"=1 -b =1", "=1 +x =1", "=1 -b +x =1", api.OK}, {"=1 +x =1", "-a =2", "-a +x =1", api.OK}, {"=1 +x =1", "=2 -b", "=1 -b +x", api.OK}, {"=3", "-a =1 -c +z", "-a =1 -c +z", api.OK}, {"-a =1 -c +z", "=2", "-a =1 -c +z", api.OK},
		{"+xyz", "=1 -y +w =1", "+xwz", api.OK}, {"+xyz =1", "=1 -y +w =1 -q", "-q +xwz", api.OK}, {"+xy =1", "-xz =1", "", api.ErrState}, {"=1 +x =1 +y =1", "=1 -x =1 -z =1", "", api.ErrState}, {"=2 +ab", "=1 +c =2 -b", "=1 +c =1 +a", api.OK}, {"-ab +cd", "-cd +ef", "-ab +ef", api.OK}, {"-a +b", "-b +a", "-a +a", api.OK}, {"-a =1 -b =1 -c", "+x =1 +y =1 +z", "-a +x =1 -b +y =1 -c +z", api.OK},
	} {
		if e, err := edit.Compose(told(x.e), told(x.f)); !alike(e, told(x.want)) || err != x.err {
			t.Errorf("%d: %v, %d", i, e, err)
		}
	}
	a, b, c := many(300, "a"), many(300, "b"), many(300, "c")
	if e, err := edit.Compose(pieces(drop(a...), put(b...)), pieces(drop(b...), put(c...))); !alike(e, pieces(drop(a...), put(c...))) || err != api.OK {
		t.Errorf("300 values: %v, %d", e, err)
	}
	if e, err := edit.Compose(pieces(put(tuple(num(1)))), pieces(drop(tuple(num(2))))); len(e) > 0 || err != api.ErrState {
		t.Errorf("another tuple: %v, %d", e, err)
	}
}

func TestCross(t *testing.T) { // P3.6
	for i, x := range []struct {
		e, f, second, first string
		err                 api.Errno
	}{
		{"=1 +x =1", "=1 +y -b", "", "", api.ErrArg}, {"=1 +x =1", "=1 -b +y", "=2 -b +y", "=1 +x =1", api.OK}, {"-a +p =1", "+q =1 +r =1", "=1 +qr =1", "+p =1 -a =2", api.OK}, {"", "", "", "", api.OK},
		{"-a", "-a", "", "", api.OK}, {"-a", "-b", "", "", api.ErrState}, {"-a =1 -c", "-a =1 -d", "", "", api.ErrState}, {"=2", "=1", "", "", api.ErrState}, {"=1", "=2", "", "", api.ErrState}, {"=1", "", "", "", api.ErrState}, {"", "-a", "", "", api.ErrState}, {"-a", "", "", "", api.ErrState}, {"+a", "=1", "", "", api.ErrState}, {"=2 +a", "=1 +b", "", "", api.ErrState}, {"=1 -b", "=1 +b", "", "", api.ErrState},
		{"+a", "+b", "=1 +b", "+a =1", api.OK}, {"+a", "+a", "=1 +a", "+a =1", api.OK}, {"+a", "", "=1", "+a", api.OK}, {"", "+a", "+a", "=1", api.OK}, {"=1", "-a +b", "-a +b", "=1", api.OK}, {"-a +b", "=1", "=1", "-a +b", api.OK}, {"-a +b", "-a +c", "=1 +c", "+b =1", api.OK},
		{"=1 +x =1 +y =1", "=1 -b +z =1", "=2 -b =1 +z =1", "=1 +xy =2", api.OK}, {"=1 -b +z =1", "=1 +x =1 +y =1", "=2 +xy =1", "=1 +z =1 -b =2", api.OK}, {"+x =1 +y", "-a", "=1 -a =1", "+xy", api.OK}, {"-a", "+x =1 +y", "+xy", "=1 -a =1", api.OK}, {"-a +x =1 +y", "+z -a =1", "", "", api.ErrArg}, {"-a +x =1 +y", "=1 -b +z", "=1 -b =1 +z", "-a +xy =1", api.OK},
		{"-ab +x =1", "=1 +p =1 +q =1", "=1 +pq =1", "-a +x =1 -b =2", api.OK}, {"+a =1 +b =1 +c", "+d =1 +e =1 +f", "=1 +d =2 +e =2 +f", "+a =2 +b =2 +c =1", api.OK},
	} {
		if e, f, err := edit.Cross(told(x.e), told(x.f)); !alike(e, told(x.second)) || !alike(f, told(x.first)) || err != x.err {
			t.Errorf("%d: %v, %v, %d", i, e, f, err)
		}
	}
}

func TestCrossOfLongLists(t *testing.T) { // P3.6, R1, R7
	for i, x := range []struct {
		e, f pieced
		n    int
		err  api.Errno
	}{
		{pieces(put(many(200, "a")...)), pieces(put(many(100, "b")...)), 300, api.OK}, {pieces(put(many(200, "a")...)), pieces(put(many(101, "b")...)), 0, api.ErrLong}, {pieces(put(many(101, "a")...)), pieces(put(many(200, "b")...)), 0, api.ErrLong},
		{pieces(keep(1), put(many(299, "a")...)), pieces(keep(1)), 300, api.OK}, {pieces(keep(1), put(many(299, "a")...)), pieces(drop(num(1)), put(num(2))), 300, api.OK}, {pieces(keep(1), put(many(299, "a")...)), pieces(keep(1), put(num(2))), 0, api.ErrLong},
		{pieces(keep(300)), pieces(keep(300)), 300, api.OK}, {pieces(drop(many(300, "a")...), put(many(150, "b")...)), pieces(keep(300)), 150, api.OK}, {pieces(drop(many(300, "a")...), put(many(150, "b")...)), pieces(drop(many(300, "a")...), put(many(151, "c")...)), 0, api.ErrLong},
		{pieces(put(many(300, "a")...), keep(0)), pieces(put(many(300, "a")...)), 0, api.ErrArg}, {pieces(drop(num(1)), put(many(200, "a")...)), pieces(drop(num(2)), put(many(200, "a")...)), 0, api.ErrState}, {pieces(put(many(200, "a")...)), pieces(drop(num(2)), put(many(200, "a")...)), 0, api.ErrState}, {pieces(put(many(200, "a")...), drop(num(1))), pieces(put(num(1))), 0, api.ErrArg},
		{pieces(put(many(200, "a")...), keep(1), drop(num(1))), pieces(put(many(200, "a")...), keep(1), drop(num(2))), 0, api.ErrState}, {pieces(put(many(200, "a")...), keep(1)), pieces(put(many(200, "a")...), keep(2)), 0, api.ErrState},
	} {
		second, first, err := edit.Cross(x.e, x.f)
		n := 0
		for _, p := range second {
			if p.Kind != api.EditDrop {
				n += p.N + len(p.L)
			}
		}
		if n != x.n || err != x.err || edit.Check(second) != api.OK || edit.Check(first) != api.OK || err != api.OK && len(second)+len(first) > 0 {
			t.Errorf("%d: %d, %d", i, n, err)
		}
	}
}
