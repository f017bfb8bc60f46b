package value_test

import (
	"strings"
	"testing"

	"deltaworks/api"
	"deltaworks/value"
)

// widest returns a valid value with the longest text and key: 52 texts of 100 bytes, each a quote, in eight values that hold them.
func widest() api.Value {
	t := text(strings.Repeat("\"", api.TextMost))
	eight := tuple(t, t, t, t, t, t, t, t)
	return tuple(eight, eight, eight, eight, eight, eight, tuple(t, t, t, t))
}

func TestText(t *testing.T) { // P1.5, P1.6
	for i, x := range []struct {
		v api.Value
		s string
	}{
		{sample, `(-3, "a\"b", (), #2 0)`},
		{num(0), "0"}, {num(7), "7"}, {num(-10), "-10"}, {num(api.WordLow), "-2147483648"}, {num(api.WordHigh), "2147483647"},
		{text(""), `""`}, {text(" "), `" "`}, {text("\\"), `"\\"`}, {text("\""), `"\""`}, {text("\\n"), `"\\n"`}, {text("(1, 2)"), `"(1, 2)"`}, {text("~"), `"~"`},
		{tuple(), "()"}, {tuple(num(1)), "(1)"}, {tuple(num(1), num(2)), "(1, 2)"}, {tuple(tuple(), tuple(tuple())), "((), (()))"},
		{tag(0, num(-1)), "#0 -1"}, {tag(7, tag(1, tuple(num(1), num(2)))), "#7 #1 (1, 2)"}, {tag(3, text("")), `#3 ""`},
	} {
		if s, e := value.Text(x.v); s != x.s || e != api.OK {
			t.Errorf("Text %d: %s, %d", i, s, e)
		}
		if v, e := value.Parse(x.s); !same(v, x.v) || e != api.OK {
			t.Errorf("Parse %d: %v, %d", i, v, e)
		}
	}
}

func TestNoText(t *testing.T) { // P1.6, R2, R9
	long := strings.Repeat("a", api.TextMost+1)
	for _, s := range []string{
		"", " ", "1 ", " 1", "01", "00", "-0", "+1", "-", "--1", "1-", "1-2", "-01", "1.0", "1e3", "0x1", "1_0", "x", "int", "2147483648", "-2147483649", "9223372036854775808", strings.Repeat("9", 100),
		`"`, `"a`, `a"`, `"\`, `"\"`, `"\n"`, `"\ "`, `"a"b"`, `""""`, "\"\x1f\"", "\"\x7f\"", "\"\x00\"", "\"ä\"", "\"\n\"", "'a'", `"` + long + `"`,
		"(", ")", "(1", "(1,", "(1, ", "(1, 2", "(1,2)", "(1,  2)", "(1 , 2)", "(1 2)", "( 1)", "(1 )", "( )", "(1, )", "(, 1)", "(,)", "(1, 2))", "()()", "(1, 2]",
		"(1, 2, 3, 4, 5, 6, 7, 8, 9)", "((((((1))))))", "((((((", "(01)", "(x)",
		"#", "#1", "#1 ", "#1  1", "#11", "# 1", "#1,1", "#8 1", "#-1 1", "#-0 1", "#01 1", "#+1 1", "# 1 1", "#1 1 1", "#x 1", "#99999999999999999999 1", "#0 #0 #0 #0 #0 #0 1",
		strings.Repeat("(", api.ValueBytes), strings.Repeat("#1 ", api.ValueBytes/3), strings.Repeat("1", api.ValueBytes), "(" + strings.Repeat("1, ", 4000) + "1)",
	} {
		if v, e := value.Parse(s); !same(v, api.Value{}) || e != api.ErrForm {
			t.Errorf("Parse of %.50q: %v, %d", s, v, e)
		}
	}
}

func TestTypeText(t *testing.T) { // P1.5, P1.6
	for i, x := range []struct {
		u api.Type
		s string
	}{
		{typed, "(int, text, (), [text + () + int])"}, {whole, "int"}, {letters, "text"}, {none, "()"}, {rowType(1), "(int)"}, {rowType(2), "(int, int)"},
		{kind(api.TypeSum, none), "[()]"}, {kind(api.TypeSum, whole, kind(api.TypeSum, letters)), "[int + [text]]"}, {kind(api.TypeTuple, kind(api.TypeSum, rowType(2), letters), none), "([(int, int) + text], ())"},
		{rowType(8), "(int, int, int, int, int, int, int, int)"}, {towerType(6), "([([(int)])])"},
	} {
		if s, e := value.TypeText(x.u); s != x.s || e != api.OK {
			t.Errorf("TypeText %d: %s, %d", i, s, e)
		}
		if u, e := value.TypeParse(x.s); !alike(u, x.u) || e != api.OK {
			t.Errorf("TypeParse %d: %v, %d", i, u, e)
		}
	}
}

func TestNoTypeText(t *testing.T) { // P1.6, R2
	for _, s := range []string{
		"", " ", "int ", " int", "Int", "in", "ints", "intint", "text text", "tex", "1", "\"int\"",
		"(", ")", "(int", "(int,", "(int, ", "(int,int)", "(int,  int)", "(int int)", "( int)", "(int )", "( )", "(int, )", "(, int)", "(int + text)", "()()", "(int]",
		"[", "]", "[]", "[int", "[int +", "[int + ", "[int+text]", "[int  + text]", "[int, text]", "[ int]", "[int ]", "[int + ]", "[ + int]", "[int)",
		"(int, int, int, int, int, int, int, int, int)", "[int + int + int + int + int + int + int + int + int]", "((((((int))))))", "[[[[[[int]]]]]]",
		strings.Repeat("(", api.TypeBytes), strings.Repeat("[", api.TypeBytes), strings.Repeat("x", api.TypeBytes),
	} {
		if u, e := value.TypeParse(s); !alike(u, api.Type{}) || e != api.ErrForm {
			t.Errorf("TypeParse of %.50q: %v, %d", s, u, e)
		}
	}
	u := rowType(8)
	if s, _ := value.TypeText(kind(api.TypeTuple, u, u, u, u, rowType(2))); s == "" {
		t.Errorf("40 types have no text")
	} else if _, e := value.TypeParse(strings.TrimSuffix(s, "))") + ", int))"); e != api.ErrForm {
		t.Errorf("41 types: %d", e)
	}
}

func TestKey(t *testing.T) { // P1.5, P1.6
	for i, x := range []struct {
		v api.Value
		s string
	}{
		{num(1), "\x01\x80\x00\x00\x01"}, {num(0), "\x01\x80\x00\x00\x00"}, {num(-1), "\x01\x7f\xff\xff\xff"}, {num(0x01020304), "\x01\x81\x02\x03\x04"}, {num(api.WordLow), "\x01\x00\x00\x00\x00"}, {num(api.WordHigh), "\x01\xff\xff\xff\xff"},
		{text(""), "\x02\x00"}, {text("a\\\""), "\x02a\\\"\x00"}, {tuple(), "\x03\x00"}, {tuple(text("a")), "\x03\x02a\x00\x00"}, {tuple(num(0), tuple()), "\x03\x01\x80\x00\x00\x00\x03\x00\x00"},
		{tag(0, text("")), "\x04\x01\x02\x00"}, {tag(7, tag(2, tuple())), "\x04\x08\x04\x03\x03\x00"},
		{sample, "\x03\x01\x7f\xff\xff\xfd\x02a\"b\x00\x03\x00\x04\x03\x01\x80\x00\x00\x00\x00"},
	} {
		if s, e := value.Key(x.v); s != x.s || e != api.OK {
			t.Errorf("Key %d: %q, %d", i, s, e)
		}
		if v, e := value.OfKey(x.s); !same(v, x.v) || e != api.OK {
			t.Errorf("OfKey %d: %v, %d", i, v, e)
		}
	}
}

func TestNoKey(t *testing.T) { // P1.6, R2
	word := "\x01\x80\x00\x00\x00"
	for _, s := range []string{
		"", "\x00", "\x05\x00", "\x05", "\xff\x00", "1", "\x01", "\x01\x00\x00\x00", word + "\x00", word + word,
		"\x02", "\x02a", "\x02\x1f\x00", "\x02\x7f\x00", "\x02\xff\x00", "\x02\x00\x00", "\x02a\x00b", "\x02" + strings.Repeat("a", api.TextMost+1) + "\x00",
		"\x03", "\x03\x00\x00", "\x03" + word, "\x03" + word + "\x01\x00", "\x03\x05\x00", "\x03" + strings.Repeat(word, 9) + "\x00", "\x03\x03\x03\x03\x03\x03\x00\x00\x00\x00\x00\x00" + "\x00", "\x03\x03\x03\x03\x03\x03\x03\x00\x00\x00\x00\x00\x00\x00",
		"\x04", "\x04\x01", "\x04\x00\x03\x00", "\x04\x09\x03\x00", "\x04\xff\x03\x00", "\x04\x01\x00", "\x04\x01\x03\x00\x00",
		strings.Repeat("\x03", api.KeyBytes), strings.Repeat("\x04\x01", api.KeyBytes/2), strings.Repeat("\x01", api.KeyBytes),
	} {
		if v, e := value.OfKey(s); !same(v, api.Value{}) || e != api.ErrForm {
			t.Errorf("OfKey of %.50q: %v, %d", s, v, e)
		}
	}
}

func TestLong(t *testing.T) { // P1.6, R1
	for _, x := range []struct {
		most int
		e    api.Errno
	}{{0, api.ErrForm}, {1, api.ErrLong}, {1 << 20, api.ErrLong}} {
		for _, c := range []string{"1", "(", "\x03", "x"} {
			v, a := value.Parse(strings.Repeat(c, api.ValueBytes+x.most))
			u, b := value.TypeParse(strings.Repeat(c, api.TypeBytes+x.most))
			w, d := value.OfKey(strings.Repeat(c, api.KeyBytes+x.most))
			if a != x.e || b != x.e || d != x.e || !same(v, api.Value{}) || !alike(u, api.Type{}) || !same(w, api.Value{}) {
				t.Errorf("%d bytes more of %q: %d, %d, %d", x.most, c, a, b, d)
			}
		}
	}
	v := widest()
	if w, e := value.Parse(textOf(t, v)); e != api.OK || !same(v, w) {
		t.Errorf("the longest text is not read: %d", e)
	}
	if w, e := value.OfKey(keyOf(t, v)); e != api.OK || !same(v, w) {
		t.Errorf("the longest key is not read: %d", e)
	}
	if n, e := value.Size(v); n != 60 || e != api.OK {
		t.Errorf("the longest value: %d, %d", n, e)
	}
}
