package query

import (
	"slices"

	"deltaworks/api"
	"deltaworks/calc"
	"deltaworks/lists"
	"deltaworks/refuse"
)

// function evaluates an expression.
type function func(values ...api.Value) api.Value

// functions returns what evaluates the expressions of a view, each with variables of the same types.
func (v place) functions(vars ...api.Type) []function {
	return lists.Each(v.F, func(e api.Exp) function { return v.in.function(e, vars...) })
}

// function returns what evaluates an expression with variables of some types. For each row calc looks at all functions that it is given, so it is given none that the expression does not need.
func (p *program) function(e api.Exp, vars ...api.Type) function {
	funs := called(p.Funs, e)
	return func(values ...api.Value) api.Value { return refuse.Unless(calc.Eval(funs, vars, values, e)) }
}

// called returns functions, with least ones in the place of those that an expression does not call, nor those that it calls.
func called(funs []api.Fun, e api.Exp) []api.Fun {
	l := slices.Repeat([]api.Fun{{Body: api.Exp{Op: api.ExpInt}}}, len(funs))
	var take func(e api.Exp)
	take = func(e api.Exp) {
		if e.Op == api.ExpCall {
			l[e.N] = funs[e.N]
			take(funs[e.N].Body)
		}
		for _, part := range e.L {
			take(part)
		}
	}
	take(e)
	return l
}
