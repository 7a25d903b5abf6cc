package store

import "groat/api"

// thrown is what goes off deep inside, and is caught at the face.
type thrown struct{ e api.Errno }

func throw(e api.Errno) { panic(thrown{e}) }

func check(e api.Errno) {
	if e != api.OK {
		throw(e)
	}
}

// caught does an act, and tells what was thrown in it. Whatever else goes off is a fault of the program, and goes on.
func caught(act func()) (e api.Errno) {
	defer func() {
		switch x := recover().(type) {
		case nil:
		case thrown:
			e = x.e
		default:
			panic(x)
		}
	}()
	act()
	return api.OK
}
