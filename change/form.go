package change

import (
	"deltaworks/api"
	"deltaworks/lists"
	"deltaworks/refuse"
	"deltaworks/value"
)

// form is a type of data that is valid, and all that is done with its data and changes. Only is and fits take others than those of the type. What the others return may share memory with what they take, and may be too great for the type: who calls copies, and refuses it. They refuse with ErrState what must be so, and is not.
type form interface {
	is(d api.Data) bool // whatever its size
	fits(c api.Change) bool
	empty() api.Data
	none() api.Change
	apply(d api.Data, c api.Change) api.Data
	diff(a, b api.Data) api.Change
	invert(c api.Change) api.Change
	compose(a, b api.Change) api.Change
	merge(a, b api.Change) api.Change
}

// kind says of a kind of types whether T is looked at, how many parts there are at least and at most, and what its form is.
type kind struct {
	typed       bool
	least, most int
	form        func(look) form
}

// kinds returns all kinds by their numbers.
func kinds() [8]kind {
	return [8]kind{
		api.DataValue: {typed: true, form: look.value},
		api.DataCount: {form: look.count},
		api.DataText:  {form: look.text},
		api.DataList:  {typed: true, form: look.list},
		api.DataBag:   {typed: true, form: look.bag},
		api.DataSet:   {typed: true, form: look.set},
		api.DataTuple: {most: api.Wide, form: look.tuple},
		api.DataMap:   {typed: true, least: 1, most: 1, form: look.mapping},
	}
}

// look is a type that is looked at: how deep it stands in the whole one, and how many types of this were seen.
type look struct {
	api.DataType
	deep int
	seen *int
}

// formOf returns the form of a type; it refuses one that is not valid.
func formOf(t api.DataType) form { return look{t, 1, new(int)}.form() }

// form looks at a type ahead of its parts, and ends with the first error, so that it also leaves a type whose memory contains itself.
func (l look) form() form {
	table := kinds()
	*l.seen++
	refuse.Demand(*l.seen <= api.DataTypes && l.deep <= api.DataDeep && l.Kind >= 0 && l.Kind < len(table), api.ErrArg)
	k := table[l.Kind]
	refuse.Demand(len(l.L) >= k.least && len(l.L) <= k.most, api.ErrArg)
	refuse.Demand(!k.typed || value.Type(l.T) == api.OK, api.ErrArg)
	return k.form(l)
}

// part returns the form of a part.
func (l look) part(t api.DataType) form { return look{t, l.deep + 1, l.seen}.form() }

// plain returns what the forms of all kinds have.
func (l look) plain() plain { return plain{l.Kind} }

func (l look) value() form { return valueForm{l.plain(), l.T} }

func (l look) count() form { return countForm{l.plain()} }

func (l look) text() form { return textForm{listForm{l.plain(), isChar}} }

func (l look) list() form {
	return listForm{l.plain(), func(v api.Value) bool { return value.Is(v, l.T) }}
}

func (l look) bag() form { return bagForm{l.plain(), l.T} }

func (l look) set() form { return setForm{bagForm{l.plain(), l.T}} }

func (l look) tuple() form { return tupleForm{l.plain(), lists.Each(l.L, l.part)} }

func (l look) mapping() form { return mapForm{l.plain(), l.T, l.part(l.L[0])} }

// plain is a kind of types, of which the data and the changes have fields of their own; it sees to all others.
type plain struct{ kind int }

func (p plain) empty() api.Data { return api.Data{Kind: p.kind} }

func (p plain) none() api.Change { return api.Change{Kind: p.kind} }

// bare reports whether there is nothing in a datum of the kind, from which its own fields were taken.
func (p plain) bare(d api.Data) bool {
	return d.Kind == p.kind && d.N == 0 && d.S == "" && isZero(d.V) && len(d.List)+len(d.Rows)+len(d.Keys)+len(d.L) == 0
}

// still reports the same of a change.
func (p plain) still(c api.Change) bool {
	return c.Kind == p.kind && c.N == 0 && isZero(c.Old) && isZero(c.New) && len(c.Edit)+len(c.Rows)+len(c.L)+len(c.Keys) == 0
}

// isZero reports whether all fields of a value are 0, or empty.
func isZero(v api.Value) bool { return v.Kind == 0 && v.N == 0 && v.S == "" && len(v.L) == 0 }

// isDatum reports whether a datum is one of a form. It looks at its size first, so that it also leaves one whose memory contains itself.
func isDatum(f form, d api.Data) bool { return isSmall(d) && f.is(d) }

// applied, composed and merged do what a form does, where a change that changes nothing makes no difference.
func applied(f form, d api.Data, c api.Change) api.Data {
	if isIdle(c) {
		return d
	}
	return f.apply(d, c)
}

func composed(f form, a, b api.Change) api.Change { return either(a, b, f.compose) }

func merged(f form, a, b api.Change) api.Change { return either(a, b, f.merge) }

// either returns what of makes of two changes, or the other one if one of them changes nothing.
func either(a, b api.Change, of func(a, b api.Change) api.Change) api.Change {
	switch {
	case isIdle(a):
		return b
	case isIdle(b):
		return a
	}
	return of(a, b)
}
