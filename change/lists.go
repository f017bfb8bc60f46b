package change

import (
	"deltaworks/api"
	"deltaworks/edit"
	"deltaworks/lists"
	"deltaworks/refuse"
)

// listForm is the form of lists, which have some values, and no others.
type listForm struct {
	plain
	has func(api.Value) bool
}

func (f listForm) is(d api.Data) bool {
	l := d.List
	d.List = nil
	return f.bare(d) && len(l) <= api.EditMost && lists.Every(l, f.has)
}

func (f listForm) fits(c api.Change) bool {
	e := c.Edit
	c.Edit = nil
	return f.still(c) && (len(e) == 0 || isEdit(e) && lists.Every(e, f.hasAll))
}

// isEdit reports whether an edit is valid, of lists and makes lists that are not too long, and drops or puts something.
func isEdit(e []api.EditPiece) bool {
	n, err := edit.Cost(e)
	return err == api.OK && n > 0
}

// hasAll reports whether all values of a piece can be in a list.
func (f listForm) hasAll(p api.EditPiece) bool { return lists.Every(p.L, f.has) }

func (f listForm) apply(d api.Data, c api.Change) api.Data {
	d.List = refuse.Unless(edit.Apply(c.Edit, d.List))
	return d
}

func (f listForm) diff(a, b api.Data) api.Change { return f.by(edit.Diff(a.List, b.List)) }

func (f listForm) invert(c api.Change) api.Change { return f.by(edit.Invert(c.Edit)) }

func (f listForm) compose(a, b api.Change) api.Change { return f.by(edit.Compose(a.Edit, b.Edit)) }

// merge returns the second edit behind the first one, composed with this. If the list that both lead to is too long there is no such edit; but something else may still clash, which comes first. So an edit that keeps too long a list stands for it: it fits no type, and is refused in the end.
func (f listForm) merge(a, b api.Change) api.Change {
	behind, _, e := edit.Cross(a.Edit, b.Edit)
	if e == api.ErrLong {
		c := f.none()
		c.Edit = []api.EditPiece{{Kind: api.EditKeep, N: api.EditMost + 1}}
		return c
	}
	return f.by(edit.Compose(a.Edit, refuse.Unless(behind, e)))
}

// by returns the change by an edit; one that only keeps changes nothing.
func (f listForm) by(e []api.EditPiece, err api.Errno) api.Change {
	c := f.none()
	if isEdit(refuse.Unless(e, err)) {
		c.Edit = e
	}
	return c
}

// textForm is the form of texts: lists of their bytes.
type textForm struct{ listForm }

func (f textForm) is(d api.Data) bool {
	_, e := edit.Chars(d.S)
	d.S = ""
	return f.bare(d) && e == api.OK
}

func (f textForm) apply(d api.Data, c api.Change) api.Data {
	l := f.listForm.apply(listed(d), c)
	d.S = refuse.Unless(edit.OfChars(l.List))
	return d
}

func (f textForm) diff(a, b api.Data) api.Change { return f.listForm.diff(listed(a), listed(b)) }

// listed returns a text as a list.
func listed(d api.Data) api.Data { return api.Data{List: refuse.Unless(edit.Chars(d.S))} }

// isChar reports whether a value is a byte of a text, as a word.
func isChar(v api.Value) bool {
	_, e := edit.OfChars([]api.Value{v})
	return e == api.OK
}
