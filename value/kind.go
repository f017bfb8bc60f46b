package value

import "deltaworks/api"

// kind says of a kind of values whether a value's own fields, apart from what is in its parts, fit it; and how what follows the first byte of a key is read.
type kind struct {
	fits func(node) bool
	key  func(*reader) api.Value
}

// kinds returns all kinds by their numbers. The first byte of a key is the number of its kind plus 1.
func kinds() [4]kind {
	return [4]kind{
		api.ValueInt:   {node.isWord, (*reader).keyWord},
		api.ValueText:  {node.isText, (*reader).keyText},
		api.ValueTuple: {node.isTuple, (*reader).keyTuple},
		api.ValueTag:   {node.isTagged, (*reader).keyTagged},
	}
}

// kindOf returns the kind of the values of a valid type.
func kindOf(t api.Type) int {
	switch t.Kind {
	case api.TypeText:
		return api.ValueText
	case api.TypeTuple:
		return api.ValueTuple
	case api.TypeSum:
		return api.ValueTag
	}
	return api.ValueInt
}

// node is a value of which only its own fields are looked at.
type node api.Value

func (n node) isWord() bool {
	return n.N >= api.WordLow && n.N <= api.WordHigh && n.S == "" && len(n.L) == 0
}

func (n node) isText() bool {
	if n.N != 0 || len(n.L) != 0 || len(n.S) > api.TextMost {
		return false
	}
	for i := range len(n.S) {
		if n.S[i] < 32 || n.S[i] > 126 {
			return false
		}
	}
	return true
}

func (n node) isTuple() bool {
	return n.N == 0 && n.S == "" && len(n.L) <= api.Wide
}

func (n node) isTagged() bool {
	return n.N >= 0 && n.N < api.Wide && n.S == "" && len(n.L) == 1
}

// typeFits reports whether a type has a kind, and as many parts as this may have.
func typeFits(t api.Type) bool {
	switch t.Kind {
	case api.TypeInt, api.TypeText:
		return len(t.L) == 0
	case api.TypeTuple:
		return len(t.L) <= api.Wide
	case api.TypeSum:
		return len(t.L) > 0 && len(t.L) <= api.Wide
	}
	return false
}
