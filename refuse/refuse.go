// Package refuse is how the layers refuse what they are given: with a panic, from however deep within, that is an error again where the function ends that was called.
package refuse

import "deltaworks/api"

// With ends what Answer was asked for, with an error.
func With(e api.Errno) { panic(e) }

// Demand refuses what must be so, and is not.
func Demand(so bool, e api.Errno) {
	if !so {
		With(e)
	}
}

// Unless returns what a call returned, unless this came with an error: then it refuses with it.
func Unless[T any](x T, e api.Errno) T {
	if e != api.OK {
		With(e)
	}
	return x
}

// Answer returns what made returns, or the error with which that was refused. There should be no other panic; if there were one, the caller would still get an error, as the language rules ask.
func Answer[T any](made func() T) (x T, e api.Errno) {
	defer func() {
		switch r := recover().(type) {
		case nil:
		case api.Errno:
			e = r
		default:
			e = api.ErrArg
		}
	}()
	return made(), api.OK
}
