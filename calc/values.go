package calc

import "deltaworks/api"

func word(n int) api.Value { return api.Value{Kind: api.ValueInt, N: n} }

func text(s string) api.Value { return api.Value{Kind: api.ValueText, S: s} }

func (v variable) valueIn(f values) api.Value { return f.vars[v.N] }

func (n number) valueIn(values) api.Value { return word(n.N) }

func (l letters) valueIn(values) api.Value { return text(l.S) }

func (t tuple) valueIn(f values) api.Value {
	return api.Value{Kind: api.ValueTuple, L: t.partValues(f)}
}

// partValues returns the values of all parts.
func (t tuple) partValues(f values) []api.Value { return each(t.L, f, valueOf) }

func (g get) valueIn(f values) api.Value { return valueOf(&g.L[0], f).L[g.N] }

func (t tagged) valueIn(f values) api.Value {
	return api.Value{Kind: api.ValueTag, N: t.N, L: each(t.L, f, valueOf)}
}

func (c choice) valueIn(f values) api.Value {
	v := valueOf(&c.L[0], f)
	return valueOf(&c.L[v.N+1], f.with(v.L[0]))
}

func (l let) valueIn(f values) api.Value {
	v := valueOf(&l.L[0], f)
	return valueOf(&l.L[1], f.with(v))
}

func (c condition) valueIn(f values) api.Value {
	if valueOf(&c.L[0], f).N != 0 {
		return valueOf(&c.L[1], f)
	}
	return valueOf(&c.L[2], f)
}

func (b both) valueIn(f values) api.Value {
	return operations()[b.N].of(valueOf(&b.L[0], f), valueOf(&b.L[1], f))
}

func (s size) valueIn(f values) api.Value { return word(len(valueOf(&s.L[0], f).S)) }

func (j join) valueIn(f values) api.Value {
	s := valueOf(&j.L[0], f).S + valueOf(&j.L[1], f).S
	return text(s[:min(len(s), api.TextMost)])
}

func (c cut) valueIn(f values) api.Value {
	s := valueOf(&c.L[0], f).S
	from := inside(s, valueOf(&c.L[1], f))
	to := inside(s, valueOf(&c.L[2], f))
	return text(s[from:max(from, to)])
}

// inside returns a word, brought into 0 to the size of a text.
func inside(s string, v api.Value) int { return max(0, min(v.N, len(s))) }

// valueIn evaluates the body with the parts as its variables: it has no others.
func (c call) valueIn(f values) api.Value {
	f.vars = c.partValues(f)
	return valueOf(&f.funs[c.N].Body, f)
}
