package value

import (
	"strconv"

	"deltaworks/api"
)

// Text returns the text of a value (P1.5).
func Text(v api.Value) (string, api.Errno) { return written(v, shape.text) }

// Key returns the key of a value (P1.5).
func Key(v api.Value) (string, api.Errno) { return written(v, shape.key) }

// TypeText returns the text of a type (P1.5).
func TypeText(t api.Type) (string, api.Errno) {
	if e := Type(t); e != api.OK {
		return "", e
	}
	s := &sink{}
	writeType(&t, s.take)
	return string(s.bytes), api.OK
}

// written returns what write makes of a value that is valid.
func written(v api.Value, write func(shape, func(byte))) (string, api.Errno) {
	if e := Check(v); e != api.OK {
		return "", e
	}
	s := &sink{}
	write(shapeOf(&v), s.take)
	return string(s.bytes), api.OK
}

// sink keeps the bytes that it takes.
type sink struct{ bytes []byte }

func (s *sink) take(b byte) { s.bytes = append(s.bytes, b) }

// shape is a valid value that is written, byte by byte, as its text or as its key.
type shape interface {
	text(take func(byte))
	key(take func(byte))
}

// The shapes of the four kinds. A tagged value is written as the word that its tag is, and more.
type (
	word    struct{ *api.Value }
	letters struct{ *api.Value }
	tuple   struct{ *api.Value }
	tagged  struct{ word }
)

func shapeOf(v *api.Value) shape {
	switch v.Kind {
	case api.ValueText:
		return letters{v}
	case api.ValueTuple:
		return tuple{v}
	case api.ValueTag:
		return tagged{word{v}}
	}
	return word{v}
}

// digits writes the number of a word, or of a tag.
func (w word) digits(take func(byte)) { puts(take, strconv.Itoa(w.N)) }

func (w word) text(take func(byte)) { w.digits(take) }

func (w word) key(take func(byte)) {
	take(api.ValueInt + 1)
	n := w.N - api.WordLow
	for shift := 24; shift >= 0; shift -= 8 {
		take(byte(n >> shift))
	}
}

func (l letters) text(take func(byte)) {
	take('"')
	for i := range len(l.S) {
		if l.S[i] == '"' || l.S[i] == '\\' {
			take('\\')
		}
		take(l.S[i])
	}
	take('"')
}

func (l letters) key(take func(byte)) {
	take(api.ValueText + 1)
	puts(take, l.S)
	take(0)
}

func (t tuple) text(take func(byte)) { writeList(take, "(", ", ", ")", t.L, writeText) }

func (t tuple) key(take func(byte)) {
	take(api.ValueTuple + 1)
	writeList(take, "", "", "\x00", t.L, writeKey)
}

func (t tagged) text(take func(byte)) {
	take('#')
	t.digits(take)
	take(' ')
	writeText(&t.L[0], take)
}

func (t tagged) key(take func(byte)) {
	take(api.ValueTag + 1)
	take(byte(t.N + 1))
	writeKey(&t.L[0], take)
}

func writeText(v *api.Value, take func(byte)) { shapeOf(v).text(take) }

func writeKey(v *api.Value, take func(byte)) { shapeOf(v).key(take) }

func writeType(t *api.Type, take func(byte)) {
	switch t.Kind {
	case api.TypeInt:
		puts(take, "int")
	case api.TypeText:
		puts(take, "text")
	case api.TypeTuple:
		writeList(take, "(", ", ", ")", t.L, writeType)
	case api.TypeSum:
		writeList(take, "[", " + ", "]", t.L, writeType)
	}
}

// writeList writes the parts of a list, with open ahead of them, between between each two, and end behind them.
func writeList[T any](take func(byte), open, between, end string, l []T, write func(*T, func(byte))) {
	puts(take, open)
	for i := range l {
		if i > 0 {
			puts(take, between)
		}
		write(&l[i], take)
	}
	puts(take, end)
}

func puts(take func(byte), s string) {
	for i := range len(s) {
		take(s[i])
	}
}
