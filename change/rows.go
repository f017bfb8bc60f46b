package change

import (
	"cmp"
	"slices"

	"deltaworks/api"
	"deltaworks/lists"
	"deltaworks/refuse"
	"deltaworks/zset"
)

// bagForm is the form of collections of rows of a type.
type bagForm struct {
	plain
	of api.Type
}

// has reports whether rows can be in a datum, or in a change.
func (f bagForm) has(z api.Zset) bool {
	return len(z) <= api.DataMost && zset.Typed(z, f.of) == api.OK
}

func (f bagForm) is(d api.Data) bool {
	z := d.Rows
	d.Rows = nil
	return f.bare(d) && f.has(z)
}

func (f bagForm) fits(c api.Change) bool {
	z := c.Rows
	c.Rows = nil
	return f.still(c) && f.has(z)
}

func (f bagForm) apply(d api.Data, c api.Change) api.Data {
	d.Rows = refuse.Unless(zset.Add(d.Rows, c.Rows))
	return d
}

func (f bagForm) diff(a, b api.Data) api.Change {
	return f.by(zset.Add(b.Rows, refuse.Unless(zset.Neg(a.Rows))))
}

func (f bagForm) invert(c api.Change) api.Change { return f.by(zset.Neg(c.Rows)) }

func (f bagForm) compose(a, b api.Change) api.Change { return f.by(zset.Add(a.Rows, b.Rows)) }

func (f bagForm) merge(a, b api.Change) api.Change { return f.by(zset.Add(a.Rows, b.Rows)) }

// by returns the change by rows.
func (f bagForm) by(z api.Zset, e api.Errno) api.Change {
	c := f.none()
	c.Rows = refuse.Unless(z, e)
	return c
}

// setForm is the form of sets: collections in which each row is once; changes put and drop rows once.
type setForm struct{ bagForm }

func (f setForm) is(d api.Data) bool { return f.bagForm.is(d) && counts(d.Rows, 1) }

func (f setForm) fits(c api.Change) bool { return f.bagForm.fits(c) && counts(c.Rows, 1, -1) }

// apply finds in the sum what was put where it was, which is there twice, and what was dropped where it was not, which is missing.
func (f setForm) apply(d api.Data, c api.Change) api.Data {
	d = f.bagForm.apply(d, c)
	refuse.Demand(counts(d.Rows, 1), api.ErrState)
	return d
}

func (f setForm) compose(a, b api.Change) api.Change {
	c := f.bagForm.compose(a, b)
	refuse.Demand(counts(c.Rows, 1, -1), api.ErrState)
	return c
}

// merge takes the sum, too, where what both put, or drop, is twice. What one puts, and the other one drops, is lost in it: then the counts are fewer than the rows were.
func (f setForm) merge(a, b api.Change) api.Change {
	c := f.bagForm.merge(a, b)
	lost := len(a.Rows) + len(b.Rows)
	for i, x := range c.Rows {
		lost -= max(x.N, -x.N)
		c.Rows[i].N = cmp.Compare(x.N, 0)
	}
	refuse.Demand(lost == 0, api.ErrState)
	return c
}

// counts reports whether all rows have one of some counts.
func counts(z api.Zset, some ...int) bool {
	return lists.Every(z, func(x api.Item) bool { return slices.Contains(some, x.N) })
}
