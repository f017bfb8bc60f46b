package change

import (
	"deltaworks/api"
	"deltaworks/refuse"
	"deltaworks/value"
)

// valueForm is the form of values of a type.
type valueForm struct {
	plain
	of api.Type
}

func (f valueForm) is(d api.Data) bool {
	v := d.V
	d.V = api.Value{}
	return f.bare(d) && value.Is(v, f.of)
}

func (f valueForm) fits(c api.Change) bool {
	if c.N != 1 {
		return f.still(c)
	}
	from, to := c.Old, c.New
	c.N, c.Old, c.New = 0, api.Value{}, api.Value{}
	return f.still(c) && value.Is(from, f.of) && value.Is(to, f.of) && !sameValue(from, to)
}

func (f valueForm) empty() api.Data {
	d := f.plain.empty()
	d.V, _ = value.Least(f.of)
	return d
}

func (f valueForm) apply(d api.Data, c api.Change) api.Data {
	refuse.Demand(sameValue(d.V, c.Old), api.ErrState)
	d.V = c.New
	return d
}

func (f valueForm) diff(a, b api.Data) api.Change { return f.between(a.V, b.V) }

// between returns the change from one value to another one.
func (f valueForm) between(from, to api.Value) api.Change {
	c := f.none()
	if !sameValue(from, to) {
		c.N, c.Old, c.New = 1, from, to
	}
	return c
}

func (f valueForm) invert(c api.Change) api.Change {
	c.Old, c.New = c.New, c.Old
	return c
}

func (f valueForm) compose(a, b api.Change) api.Change {
	refuse.Demand(sameValue(a.New, b.Old), api.ErrState)
	return f.between(a.Old, b.New)
}

func (f valueForm) merge(a, b api.Change) api.Change {
	refuse.Demand(sameValue(a.Old, b.Old) && sameValue(a.New, b.New), api.ErrState)
	return a
}

// countForm is the form of counts.
type countForm struct{ plain }

func (f countForm) is(d api.Data) bool {
	n := d.N
	d.N = 0
	return f.bare(d) && n == wrapped(n)
}

func (f countForm) fits(c api.Change) bool {
	n := c.N
	c.N = 0
	return f.still(c) && n == wrapped(n)
}

func (f countForm) apply(d api.Data, c api.Change) api.Data {
	d.N = wrapped(d.N + c.N)
	return d
}

func (f countForm) diff(a, b api.Data) api.Change { return f.by(b.N - a.N) }

func (f countForm) invert(c api.Change) api.Change { return f.by(-c.N) }

func (f countForm) compose(a, b api.Change) api.Change { return f.by(a.N + b.N) }

func (f countForm) merge(a, b api.Change) api.Change { return f.by(a.N + b.N) }

// by returns the change by what a word keeps of a number.
func (f countForm) by(n int) api.Change {
	c := f.none()
	c.N = wrapped(n)
	return c
}

// wrapped returns what 32 bits keep of a number.
func wrapped(n int) int { return int(int32(n)) }
