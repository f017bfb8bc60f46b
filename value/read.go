package value

import (
	"strconv"
	"strings"

	"deltaworks/api"
)

// Parse returns the value of a text (P1.6).
func Parse(s string) (api.Value, api.Errno) {
	return read(s, api.ValueBytes, (*reader).value, Check)
}

// TypeParse returns the type of a text (P1.6).
func TypeParse(s string) (api.Type, api.Errno) {
	return read(s, api.TypeBytes, (*reader).typeOf, Type)
}

// OfKey returns the value of a key (P1.6).
func OfKey(s string) (api.Value, api.Errno) {
	return read(s, api.KeyBytes, (*reader).ofKey, Check)
}

// read returns what all of s, of at most so many bytes, stands for. The readers only see to the form; whether what was read is valid (limits, bytes of texts) is left to check.
func read[T any](s string, most int, whole func(*reader) T, check func(T) api.Errno) (x T, e api.Errno) {
	if len(s) > most {
		return x, api.ErrLong
	}
	defer func() {
		if recover() != nil {
			var none T
			x, e = none, api.ErrForm
		}
	}()
	r := &reader{s: s}
	x = whole(r)
	if r.at < len(s) || check(x) != api.OK {
		refuse()
	}
	return x, api.OK
}

// reader reads s from the byte at on. What is not of the form is left by refuse, from however deep within.
type reader struct {
	s  string
	at int
}

// refuse ends a reading; read recovers.
func refuse() { panic(api.ErrForm) }

// next reads a byte.
func (r *reader) next() byte {
	if r.at == len(r.s) {
		refuse()
	}
	r.at++
	return r.s[r.at-1]
}

// skip reads these bytes if they come next, and reports whether they did.
func (r *reader) skip(s string) bool {
	if !strings.HasPrefix(r.s[r.at:], s) {
		return false
	}
	r.at += len(s)
	return true
}

func (r *reader) expect(s string) {
	if !r.skip(s) {
		refuse()
	}
}

// number reads a number. Its bytes must be those that are written of it: this excludes zeros ahead, -0, and what does not fit.
func (r *reader) number() int {
	from := r.at
	for r.at < len(r.s) && (r.s[r.at] == '-' || r.s[r.at] >= '0' && r.s[r.at] <= '9') {
		r.at++
	}
	digits := r.s[from:r.at]
	n, err := strconv.Atoi(digits)
	if err != nil || strconv.Itoa(n) != digits {
		refuse()
	}
	return n
}

// value reads the text of a value.
func (r *reader) value() api.Value {
	switch {
	case r.skip("\""):
		return r.quoted()
	case r.skip("("):
		return api.Value{Kind: api.ValueTuple, L: readList(r, ", ", ")", (*reader).value)}
	case r.skip("#"):
		tag := r.number()
		r.expect(" ")
		return api.Value{Kind: api.ValueTag, N: tag, L: together(r.value())}
	}
	return api.Value{Kind: api.ValueInt, N: r.number()}
}

// quoted reads the rest of the text of a text, whose first quote was read.
func (r *reader) quoted() api.Value {
	s := &sink{}
	for b := r.next(); b != '"'; b = r.next() {
		if b == '\\' {
			b = r.next()
			if b != '"' && b != '\\' {
				refuse()
			}
		}
		s.take(b)
	}
	return api.Value{Kind: api.ValueText, S: string(s.bytes)}
}

// typeOf reads the text of a type.
func (r *reader) typeOf() api.Type {
	switch {
	case r.skip("("):
		return api.Type{Kind: api.TypeTuple, L: readList(r, ", ", ")", (*reader).typeOf)}
	case r.skip("["):
		return api.Type{Kind: api.TypeSum, L: readList(r, " + ", "]", (*reader).typeOf)}
	case r.skip("text"):
		return api.Type{Kind: api.TypeText}
	}
	r.expect("int")
	return api.Type{Kind: api.TypeInt}
}

// ofKey reads the key of a value.
func (r *reader) ofKey() api.Value {
	table := kinds()
	number := int(r.next()) - 1
	if number < 0 || number >= len(table) {
		refuse()
	}
	return table[number].key(r)
}

func (r *reader) keyWord() api.Value {
	n := 0
	for range 4 {
		n = n<<8 | int(r.next())
	}
	return api.Value{Kind: api.ValueInt, N: n + api.WordLow}
}

func (r *reader) keyText() api.Value {
	s := &sink{}
	for b := r.next(); b != 0; b = r.next() {
		s.take(b)
	}
	return api.Value{Kind: api.ValueText, S: string(s.bytes)}
}

func (r *reader) keyTuple() api.Value {
	return api.Value{Kind: api.ValueTuple, L: readList(r, "", "\x00", (*reader).ofKey)}
}

func (r *reader) keyTagged() api.Value {
	tag := int(r.next()) - 1
	return api.Value{Kind: api.ValueTag, N: tag, L: together(r.ofKey())}
}

// readList reads parts up to end, with between between each two. It refuses what is wider than any list of a value or a type, so that a long text is left early.
func readList[T any](r *reader, between, end string, part func(*reader) T) []T {
	var l [api.Wide]T
	n := 0
	for !r.skip(end) {
		if n == len(l) {
			refuse()
		}
		if n > 0 {
			r.expect(between)
		}
		l[n] = part(r)
		n++
	}
	return together(l[:n]...)
}
