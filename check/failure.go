package check

import "winch/api"

// failure is what a check panics with: the error that it has found.
type failure struct{ err api.Errno }

// failIf ends a check with an error, if something is so.
func failIf(is bool, err api.Errno) {
	if is {
		panic(failure{err})
	}
}

// caught returns the error with which a check ends. A check that ends with anything else has not found out that all is well.
func caught(check func()) (err api.Errno) {
	err = api.ErrArg
	defer func() {
		if f, is := recover().(failure); is {
			err = f.err
		}
	}()
	check()
	return api.OK
}
