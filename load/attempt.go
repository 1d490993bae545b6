package load

import "azalai/api"

// attempt does some work and returns its result, or the error with which a panic ended it. The result is zero then, as it is only set by work that ends.
func attempt[R any](work func() R) (result R, e api.Errno) {
	defer func() {
		if stopped := recover(); stopped != nil {
			e = stopped.(api.Errno)
		}
	}()
	return work(), api.OK
}

// require ends an attempt with an error unless something is so.
func require(so bool, e api.Errno) {
	if !so {
		panic(e)
	}
}

// pass ends an attempt with an error, if it is one.
func pass(e api.Errno) { require(e == api.OK, e) }
