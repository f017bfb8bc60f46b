package calc

import "deltaworks/api"

// shape is an expression of some kind, which is formed: what type it has, and, if it is typed, what value.
type shape interface {
	typeIn(types) api.Type
	valueIn(values) api.Value
}

// The shapes of all kinds. The parts of a call are taken together as those of a tuple are.
type (
	variable  struct{ *api.Exp }
	number    struct{ *api.Exp }
	letters   struct{ *api.Exp }
	tuple     struct{ *api.Exp }
	get       struct{ *api.Exp }
	tagged    struct{ *api.Exp }
	choice    struct{ *api.Exp }
	let       struct{ *api.Exp }
	condition struct{ *api.Exp }
	both      struct{ *api.Exp }
	size      struct{ *api.Exp }
	join      struct{ *api.Exp }
	cut       struct{ *api.Exp }
	call      struct{ tuple }
)

func shapeOf(e *api.Exp) shape {
	switch e.Op {
	case api.ExpInt:
		return number{e}
	case api.ExpText:
		return letters{e}
	case api.ExpTuple:
		return tuple{e}
	case api.ExpGet:
		return get{e}
	case api.ExpTag:
		return tagged{e}
	case api.ExpCase:
		return choice{e}
	case api.ExpLet:
		return let{e}
	case api.ExpIf:
		return condition{e}
	case api.ExpBin:
		return both{e}
	case api.ExpSize:
		return size{e}
	case api.ExpJoin:
		return join{e}
	case api.ExpCut:
		return cut{e}
	case api.ExpCall:
		return call{tuple{e}}
	}
	return variable{e}
}

// frame is what an expression stands in: the functions that it may call, the types of their bodies, as far as these are known, and of each variable its type, or its value.
type frame[T any] struct {
	funs    []api.Fun
	results []api.Type
	vars    []T
}

type (
	types  = frame[api.Type]
	values = frame[api.Value]
)

// with returns a frame with a variable more. The list of variables is a new one: it may be an argument that has room behind its end.
func (f frame[T]) with(x T) frame[T] {
	f.vars = append(f.vars[:len(f.vars):len(f.vars)], x)
	return f
}

func typeOf(e *api.Exp, f types) api.Type { return shapeOf(e).typeIn(f) }

func valueOf(e *api.Exp, f values) api.Value { return shapeOf(e).valueIn(f) }

// each returns what of makes, in a frame, of each expression of a list.
func each[T any](l []api.Exp, f frame[T], of func(*api.Exp, frame[T]) T) []T {
	made := make([]T, len(l))
	for i := range l {
		made[i] = of(&l[i], f)
	}
	return made
}
