package edit

import "deltaworks/api"

// pieces are pieces of an edit in the making.
type pieces []api.EditPiece

// add puts a piece behind the others, unless there is nothing in it.
func (p *pieces) add(x api.EditPiece) {
	if x.N > 0 || len(x.L) > 0 {
		*p = append(*p, x)
	}
}

// writer writes an edit. It holds back what is kept, and what is dropped and put behind that, until the next value is kept: until then more can be dropped, which stands ahead of what is put.
type writer struct {
	pieces
	kept         int
	dropped, put []api.Value
}

func (w *writer) write(s step) {
	switch {
	case s.kind == api.EditDrop:
		w.dropped = append(w.dropped, s.value())
	case s.kind == api.EditPut:
		w.put = append(w.put, s.value())
	case len(w.dropped)+len(w.put) > 0:
		w.flush()
		fallthrough
	default:
		w.kept++
	}
}

// flush adds what was held back. The lists are used again, so the pieces have copies of them.
func (w *writer) flush() {
	w.add(api.EditPiece{Kind: api.EditKeep, N: w.kept})
	w.add(api.EditPiece{Kind: api.EditDrop, L: together(w.dropped)})
	w.add(api.EditPiece{Kind: api.EditPut, L: together(w.put)})
	w.kept, w.dropped, w.put = 0, w.dropped[:0], w.put[:0]
}

// edit returns the edit of these steps.
func (l line) edit() []api.EditPiece {
	w := &writer{}
	pass(l, w.write)
	w.flush()
	return w.pieces
}

// pass gives all parts of a list to take, one by one.
func pass[T any](l []T, take func(T)) {
	for _, x := range l {
		take(x)
	}
}

// together returns lists, one behind the other, in new memory, with no room behind them.
func together[T any](lists ...[]T) []T {
	n := 0
	for _, l := range lists {
		n += len(l)
	}
	whole := make([]T, n)
	rest := whole
	for _, l := range lists {
		done := copy(rest, l)
		rest = rest[done:]
	}
	return whole[:n:n]
}
