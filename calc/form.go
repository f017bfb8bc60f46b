package calc

import (
	"iter"
	"slices"

	"deltaworks/api"
	"deltaworks/lists"
	"deltaworks/refuse"
	"deltaworks/value"
)

// callee is what calls of a function are looked at with: how many parts they have, at least and at most, and the whole size of the body.
type callee struct{ least, most, whole int }

// checker finds out whether expressions are formed, where the functions that it knows may be called.
type checker struct{ known []callee }

// demandFuns returns a checker that knows functions; it refuses them unless they are formed.
func demandFuns(funs []api.Fun) *checker {
	c := &checker{}
	refuse.Demand(len(funs) <= api.ProgFuns && lists.Every(funs, c.admits), api.ErrArg)
	return c
}

// anyCalls returns the checker of expressions whose functions are not given: it is only known how many there can be, and how many parameters one can have.
func anyCalls() *checker {
	return &checker{slices.Repeat([]callee{{most: api.Wide}}, api.ProgFuns)}
}

// admits reports whether a function is formed, with those that were admitted ahead of it; from then on it is known, too.
func (c *checker) admits(f api.Fun) bool {
	if !areTypes(f.Params, api.Wide) {
		return false
	}
	parts := len(f.Params)
	whole := c.whole(&f.Body, parts)
	c.known = append(c.known, callee{parts, parts, whole})
	return whole > 0 && whole <= api.ExpWhole
}

// whole returns the whole size of an expression with so many variables from outside; 0, if it is not formed. It looks at a node ahead of its parts, and ends with the first one that does not fit, so that it also leaves an expression whose memory contains itself.
func (c *checker) whole(e *api.Exp, vars int) int {
	nodes, whole := 0, 0
look:
	for n := range within(node{e, 1, vars, c.known}) {
		nodes++
		switch {
		case nodes > api.ExpMost, n.deep > api.ExpDeep, !n.fits():
			whole = 0
			break look
		case n.Op == api.ExpCall:
			whole += c.known[n.N].whole
		}
		whole++
	}
	return whole
}

// node is an expression where it stands in another one: how many are around it, itself too, how many variables there are, and which functions.
type node struct {
	*api.Exp
	deep, vars int
	known      []callee
}

// within yields a node, and then, part by part, all that is in it.
func within(n node) iter.Seq[node] {
	return func(yield func(node) bool) {
		var walk func(n node) bool
		walk = func(n node) bool {
			if !yield(n) {
				return false
			}
			for i := range n.L {
				if !walk(node{&n.L[i], n.deep + 1, n.vars + binds(n.Op, i), n.known}) {
					return false
				}
			}
			return true
		}
		walk(n)
	}
}

// binds returns how many variables more there are in a part of an operation.
func binds(op, part int) int {
	if part > 0 && (op == api.ExpLet || op == api.ExpCase) {
		return 1
	}
	return 0
}

// kind says of an operation how many parts there are, at least and at most, and whether the other fields that it names fit.
type kind struct {
	least, most int
	fits        func(node) bool
}

// kinds returns the kinds of all operations, by their numbers.
func kinds() [api.ExpCall + 1]kind {
	return [api.ExpCall + 1]kind{
		api.ExpVar:   {fits: node.isVariable},
		api.ExpInt:   {fits: node.isWord},
		api.ExpText:  {fits: node.isText},
		api.ExpTuple: {most: api.Wide, fits: node.isAny},
		api.ExpGet:   {1, 1, node.isPlace},
		api.ExpTag:   {1, 1, node.isTagged},
		api.ExpCase:  {2, api.Wide + 1, node.isAny},
		api.ExpLet:   {2, 2, node.isAny},
		api.ExpIf:    {3, 3, node.isAny},
		api.ExpBin:   {2, 2, node.isBin},
		api.ExpSize:  {1, 1, node.isAny},
		api.ExpJoin:  {2, 2, node.isAny},
		api.ExpCut:   {3, 3, node.isAny},
		api.ExpCall:  {0, api.Wide, node.isCall},
	}
}

// fits reports whether there is such an operation, and a node has what it needs, as far as it is no matter of types, and of what is in its parts.
func (n node) fits() bool {
	table := kinds()
	if n.Op < 0 || n.Op >= len(table) {
		return false
	}
	k := table[n.Op]
	return len(n.L) >= k.least && len(n.L) <= k.most && k.fits(n)
}

func (n node) isAny() bool { return true }

func (n node) isVariable() bool { return n.N >= 0 && n.N < n.vars }

func (n node) isWord() bool { return value.Check(word(n.N)) == api.OK }

func (n node) isText() bool { return value.Check(text(n.S)) == api.OK }

func (n node) isPlace() bool { return n.N >= 0 && n.N < api.Wide }

func (n node) isTagged() bool { return n.N >= 0 && n.N < len(n.T) && areTypes(n.T, api.Wide) }

func (n node) isBin() bool { return isOperation(n.N) }

func (n node) isCall() bool {
	if n.N < 0 || n.N >= len(n.known) {
		return false
	}
	f := n.known[n.N]
	return len(n.L) >= f.least && len(n.L) <= f.most
}

// areTypes reports whether there are at most so many types, all of them valid.
func areTypes(l []api.Type, most int) bool { return len(l) <= most && lists.Every(l, isType) }

func isType(t api.Type) bool { return value.Type(t) == api.OK }
