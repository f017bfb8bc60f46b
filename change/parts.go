package change

import (
	"slices"

	"deltaworks/api"
	"deltaworks/lists"
)

// tupleForm is the form of tuples.
type tupleForm struct {
	plain
	parts []form
}

func (f tupleForm) is(d api.Data) bool {
	l := d.L
	d.L = nil
	return f.bare(d) && slices.EqualFunc(f.parts, l, form.is)
}

func (f tupleForm) fits(c api.Change) bool {
	l := c.L
	c.L = nil
	return f.still(c) && slices.EqualFunc(f.parts, l, form.fits)
}

func (f tupleForm) empty() api.Data {
	d := f.plain.empty()
	d.L = lists.Each(f.parts, form.empty)
	return d
}

func (f tupleForm) none() api.Change { return f.by(lists.Each(f.parts, form.none)) }

func (f tupleForm) apply(d api.Data, c api.Change) api.Data {
	d.L = eachTwo(f.parts, d.L, c.L, applied)
	return d
}

func (f tupleForm) diff(a, b api.Data) api.Change {
	return f.by(eachTwo(f.parts, a.L, b.L, form.diff))
}

func (f tupleForm) invert(c api.Change) api.Change {
	back := func(part form, c, _ api.Change) api.Change { return part.invert(c) }
	return f.by(eachTwo(f.parts, c.L, c.L, back))
}

func (f tupleForm) compose(a, b api.Change) api.Change {
	return f.by(eachTwo(f.parts, a.L, b.L, composed))
}

func (f tupleForm) merge(a, b api.Change) api.Change {
	return f.by(eachTwo(f.parts, a.L, b.L, merged))
}

// by returns the change by the changes of all parts.
func (f tupleForm) by(l []api.Change) api.Change {
	c := f.plain.none()
	c.L = l
	return c
}

// eachTwo returns what of makes of the two that belong to each form, in lists that are as long as that of the forms.
func eachTwo[A, B, C any](forms []form, a []A, b []B, of func(form, A, B) C) []C {
	made := make([]C, len(forms))
	for i, f := range forms {
		made[i] = of(f, a[i], b[i])
	}
	return made
}
