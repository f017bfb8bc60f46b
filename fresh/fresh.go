// Package fresh copies what the layers return: a result is new memory, whatever it was made of.
package fresh

import "deltaworks/api"

// List returns what of makes of each part of a list, in new memory.
func List[L ~[]T, T any](l L, of func(T) T) L {
	if len(l) == 0 {
		return nil
	}
	c := make(L, len(l))
	copy(c, l)
	for i := range c {
		c[i] = of(c[i])
	}
	return c
}

// Value returns a value in new memory. It must be valid: there is no end to one that contains itself.
func Value(v api.Value) api.Value {
	v.L = List(v.L, Value)
	return v
}

// Type returns a type in new memory. It must be valid, too.
func Type(t api.Type) api.Type {
	t.L = List(t.L, Type)
	return t
}

// Zset returns a collection in new memory. All of its rows must be valid values.
func Zset(z api.Zset) api.Zset { return List(z, item) }

func item(x api.Item) api.Item {
	x.Row = Value(x.Row)
	return x
}
