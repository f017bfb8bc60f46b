package zset

import "deltaworks/api"

// refuse ends what a function makes, from however deep within, with an error; answer recovers.
func refuse(e api.Errno) { panic(e) }

// answer returns what made returns, or the error with which that was refused. There should be no other panic; if there were one, the caller would still get an error, as the language rules ask.
func answer[T any](made func() T) (x T, e api.Errno) {
	defer func() {
		switch r := recover().(type) {
		case nil:
		case api.Errno:
			e = r
		default:
			e = api.ErrArg
		}
	}()
	return made(), api.OK
}
