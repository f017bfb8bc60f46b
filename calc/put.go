package calc

import (
	"slices"

	"deltaworks/api"
	"deltaworks/fresh"
)

// name is a variable that an expression reads: its number, and whether it is one from outside.
type name struct {
	number  int
	outside bool
}

// read returns, rising, which of so many variables from outside an expression reads.
func read(e *api.Exp, vars int) []int {
	reads := map[name]struct{}{}
	for n := range within(node{Exp: e}) {
		if n.Op == api.ExpVar {
			reads[name{n.N, n.N < vars}] = struct{}{}
		}
	}
	var l []int
	for n := range reads {
		if n.outside {
			l = append(l, n.number)
		}
	}
	slices.Sort(l)
	return l
}

// put returns an expression with those of a list, each with so many variables from outside, in the place of its variables from outside. Where it stands within, the variables that it binds itself come behind all those that are bound around it.
func put(e *api.Exp, l []api.Exp, vars int) api.Exp {
	return renamed(e, func(n, bound int) api.Exp {
		if n >= len(l) {
			return reading(n - len(l) + vars)
		}
		return renamed(&l[n], func(m, _ int) api.Exp {
			if m >= vars {
				m += bound
			}
			return reading(m)
		})
	})
}

func reading(n int) api.Exp { return api.Exp{Op: api.ExpVar, N: n} }

// renamed returns an expression with what of makes of each variable, of its number and of how many are bound around the place at which it is read.
func renamed(e *api.Exp, of func(n, bound int) api.Exp) api.Exp {
	var walk func(e *api.Exp, bound int) api.Exp
	walk = func(e *api.Exp, bound int) api.Exp {
		if e.Op == api.ExpVar {
			return of(e.N, bound)
		}
		made := alone(e)
		for i := range e.L {
			part := walk(&e.L[i], bound+binds(e.Op, i))
			made.L = append(made.L, part)
		}
		return made
	}
	return walk(e, 0)
}

// alone returns an expression without parts, in new memory, with no other fields than those that its operation names: nobody looked at the others.
func alone(e *api.Exp) api.Exp {
	made := api.Exp{Op: e.Op}
	switch e.Op {
	case api.ExpText:
		made.S = e.S
	case api.ExpTag:
		made.N, made.T = e.N, fresh.List(e.T, fresh.Type)
	case api.ExpInt, api.ExpGet, api.ExpBin, api.ExpCall:
		made.N = e.N
	}
	return made
}
