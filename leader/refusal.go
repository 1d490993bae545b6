package leader

import "azalai/api"

// doubt is the reason why a command is refused that might not end well.
type doubt string

// refuseIf ends what a company does with an error, if something is so.
func refuseIf(so bool, e api.Errno) {
	if so {
		panic(e)
	}
}

// doubtIf ends what a company does with a reason, and of which of its animals it is one, if something is so.
func doubtIf(so bool, reason string, animal ...int) {
	if so {
		panic(doubt(words(reason, animal...)))
	}
}

// refused does some work, and returns why it was refused, if it was.
func refused(work func()) (said string, e api.Errno) {
	defer func() {
		switch stopped := recover().(type) {
		case nil:
		case api.Errno:
			e = stopped
		case doubt:
			said, e = string(stopped), api.ErrDoubt
		default:
			panic(stopped)
		}
	}()
	work()
	return "", api.OK
}
