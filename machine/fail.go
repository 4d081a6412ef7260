package machine

import "packtrail/api"

// failure is thrown where something can't be done, ahead of all that it would change.
type failure struct{ code api.Errno }

// Try does something, and answers what failed of it.
func Try(do func()) (code api.Errno) {
	defer func() {
		switch x := recover().(type) {
		case nil:
		case failure:
			code = x.code
		default:
			panic(x)
		}
	}()
	do()
	return api.OK
}

// need fails, unless all is well.
func need(code api.Errno) {
	if code != api.OK {
		panic(failure{code})
	}
}

// refuse fails, if something is wrong.
func refuse(wrong bool, code api.Errno) {
	if wrong {
		need(code)
	}
}
