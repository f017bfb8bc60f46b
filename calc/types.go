package calc

import (
	"slices"

	"deltaworks/alike"
	"deltaworks/api"
	"deltaworks/refuse"
)

// results returns the frame of functions that are formed, with the types of their bodies; it refuses those that are not typed.
func results(funs []api.Fun) types {
	f := types{funs: funs}
	for i := range funs {
		f.vars = funs[i].Params
		t := typeOf(&funs[i].Body, f)
		f.results = append(f.results, t)
	}
	return f
}

func (v variable) typeIn(f types) api.Type { return f.vars[v.N] }

func (n number) typeIn(types) api.Type { return api.Type{Kind: api.TypeInt} }

func (l letters) typeIn(types) api.Type { return api.Type{Kind: api.TypeText} }

func (t tuple) typeIn(f types) api.Type {
	return valid(api.Type{Kind: api.TypeTuple, L: t.partTypes(f)})
}

// partTypes returns the types of all parts.
func (t tuple) partTypes(f types) []api.Type { return each(t.L, f, typeOf) }

func (g get) typeIn(f types) api.Type {
	t := typeOf(&g.L[0], f)
	refuse.Demand(t.Kind == api.TypeTuple && g.N < len(t.L), api.ErrType)
	return t.L[g.N]
}

func (t tagged) typeIn(f types) api.Type {
	alike.One(typeOf(&t.L[0], f), t.T[t.N])
	return valid(api.Type{Kind: api.TypeSum, L: t.T})
}

func (c choice) typeIn(f types) api.Type {
	sum := typeOf(&c.L[0], f)
	refuse.Demand(sum.Kind == api.TypeSum && len(sum.L) == len(c.L)-1, api.ErrType)
	l := make([]api.Type, len(sum.L))
	for i, t := range sum.L {
		l[i] = typeOf(&c.L[i+1], f.with(t))
	}
	return alike.One(l...)
}

func (l let) typeIn(f types) api.Type {
	t := typeOf(&l.L[0], f)
	return typeOf(&l.L[1], f.with(t))
}

func (c condition) typeIn(f types) api.Type {
	plain(f, c.L, api.TypeInt)
	return alike.One(each(c.L[1:], f, typeOf)...)
}

func (b both) typeIn(f types) api.Type {
	t := alike.One(each(b.L, f, typeOf)...)
	refuse.Demand(t.Kind == api.TypeInt || operations()[b.N].ofAny(), api.ErrType)
	return api.Type{Kind: api.TypeInt}
}

func (s size) typeIn(f types) api.Type {
	plain(f, s.L, api.TypeText)
	return api.Type{Kind: api.TypeInt}
}

func (j join) typeIn(f types) api.Type {
	plain(f, j.L, api.TypeText, api.TypeText)
	return api.Type{Kind: api.TypeText}
}

func (c cut) typeIn(f types) api.Type {
	plain(f, c.L, api.TypeText, api.TypeInt, api.TypeInt)
	return api.Type{Kind: api.TypeText}
}

func (c call) typeIn(f types) api.Type {
	refuse.Demand(slices.EqualFunc(c.partTypes(f), f.funs[c.N].Params, alike.Types), api.ErrType)
	return f.results[c.N]
}

// plain refuses expressions, from the first one on, unless they are words and texts, as the kinds say.
func plain(f types, l []api.Exp, kinds ...int) {
	for i, kind := range kinds {
		refuse.Demand(typeOf(&l[i], f).Kind == kind, api.ErrType)
	}
}

// valid returns a type that is made of valid ones; it refuses one that is too great.
func valid(t api.Type) api.Type {
	refuse.Demand(isType(t), api.ErrType)
	return t
}
