package calc

import (
	"deltaworks/api"
	"deltaworks/refuse"
	"deltaworks/value"
)

// operation is what ExpBin makes: of two words a number, or of any two values whether which of them is ahead, as value.Compare tells it, is as it should be.
type operation struct {
	words func(a, b int) int
	order func(ahead int) bool
}

// operations returns all operations by their numbers.
func operations() [api.Ops]operation {
	return [api.Ops]operation{
		api.OpAdd:  {words: func(a, b int) int { return a + b }},
		api.OpSub:  {words: func(a, b int) int { return a - b }},
		api.OpMul:  {words: func(a, b int) int { return a * b }},
		api.OpDiv:  {words: quotient},
		api.OpMod:  {words: remainder},
		api.OpMin:  {words: func(a, b int) int { return min(a, b) }},
		api.OpMax:  {words: func(a, b int) int { return max(a, b) }},
		api.OpAnd:  {words: func(a, b int) int { return a & b }},
		api.OpOr:   {words: func(a, b int) int { return a | b }},
		api.OpXor:  {words: func(a, b int) int { return a ^ b }},
		api.OpLess: {order: func(ahead int) bool { return ahead < 0 }},
		api.OpSame: {order: func(ahead int) bool { return ahead == 0 }},
	}
}

func isOperation(op int) bool { return op >= 0 && op < api.Ops }

// ofAny reports whether an operation is one of values of any type.
func (o operation) ofAny() bool { return o.order != nil }

// of returns what an operation makes of two values, which are words unless it is one of any: of a number what 32 bits keep.
func (o operation) of(a, b api.Value) api.Value {
	switch {
	case !o.ofAny():
		return word(int(int32(o.words(a.N, b.N))))
	case o.order(refuse.Unless(value.Compare(a, b))):
		return word(1)
	}
	return word(0)
}

// quotient is rounded down, where Go's is rounded towards 0.
func quotient(a, b int) int {
	if b == 0 {
		return 0
	}
	return (a - remainder(a, b)) / b
}

// remainder has the sign of b, where Go's has that of a.
func remainder(a, b int) int {
	if b == 0 {
		return 0
	}
	return (a%b + b) % b
}
