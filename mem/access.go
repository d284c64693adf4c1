package mem

import (
	"tapline/api"
	"tapline/bits"
)

// maxAccess is the number of bytes that one access can have: those of the largest space.
const maxAccess = api.MaxPages * api.PageSize

// Access returns the fault of an access to n bytes.
func Access(s api.Space, at int64, n, perm int) (api.Fault, api.Errno) {
	if e := checkLength(s, n, maxAccess); e != api.OK {
		return api.Fault{}, e
	}
	if perm != api.PmRead && perm != api.PmWrite && perm != api.PmExec {
		return api.Fault{}, api.ErrArg
	}
	_, f := memoryOf(s).read(at, n, perm)
	return f, api.OK
}

// Load returns the value of an integer type at an address.
func Load(s api.Space, at int64, t api.Int) (int64, api.Fault, api.Errno) {
	if e := checkType(s, t); e != api.OK {
		return 0, api.Fault{}, e
	}
	b, f := memoryOf(s).read(at, t.Size, api.PmRead)
	if f.Kind != api.FtNone {
		return 0, f, api.OK
	}
	v, e := bits.FromBytes(t, b)
	return v, api.Fault{}, e
}

// Store returns the space in which the value of an integer type is stored at an address.
func Store(s api.Space, at int64, t api.Int, v int64) (api.Space, api.Fault, api.Errno) {
	if e := checkType(s, t); e != api.OK {
		return api.Space{}, api.Fault{}, e
	}
	// The type is valid, so its values have bytes.
	b, _ := bits.Bytes(t, v)
	changed, f := replaced(s, at, b, api.PmWrite)
	return changed, f, api.OK
}

// Fetch returns the executable bytes from an address on, at most n.
func Fetch(s api.Space, at int64, n int) ([]byte, api.Errno) {
	if e := checkLength(s, n, maxAccess); e != api.OK {
		return nil, e
	}
	b, _ := memoryOf(s).read(at, n, api.PmExec)
	return b, api.OK
}

// Peek returns n bytes from an address on, whatever the permissions are.
func Peek(s api.Space, at int64, n int) ([]byte, api.Fault, api.Errno) {
	if e := checkLength(s, n, maxAccess); e != api.OK {
		return nil, api.Fault{}, e
	}
	b, f := memoryOf(s).read(at, n, anyPerm)
	if f.Kind != api.FtNone {
		return nil, f, api.OK
	}
	return b, api.Fault{}, api.OK
}

// Poke returns the space in which bytes are replaced, whatever the permissions are.
func Poke(s api.Space, at int64, b []byte) (api.Space, api.Fault, api.Errno) {
	if e := Check(s); e != api.OK {
		return api.Space{}, api.Fault{}, e
	}
	if len(b) > maxAccess {
		return api.Space{}, api.Fault{}, api.ErrLong
	}
	changed, f := replaced(s, at, b, anyPerm)
	return changed, f, api.OK
}

// String returns the readable bytes from an address up to a byte 0, at most so many.
func String(s api.Space, at int64, most int) (string, api.Fault, api.Errno) {
	if e := checkLength(s, most, api.MaxString); e != api.OK {
		return "", api.Fault{}, e
	}
	m := memoryOf(s)
	var text []byte
	f := caught(func() {
		for _, cell := range m.cells(at, most, api.PmRead) {
			if *cell == 0 {
				return
			}
			text = append(text, *cell)
		}
	})
	if f.Kind != api.FtNone {
		return "", f, api.OK
	}
	return string(text), api.Fault{}, api.OK
}

// replaced returns a valid space in which bytes are replaced, or the fault of an access to them.
func replaced(s api.Space, at int64, b []byte, perm int) (api.Space, api.Fault) {
	m := memoryOf(s)
	if f := m.write(at, b, perm); f.Kind != api.FtNone {
		return api.Space{}, f
	}
	return m.space(), api.Fault{}
}

// checkType tells what is wrong with a space, and then with a type.
func checkType(s api.Space, t api.Int) api.Errno {
	if e := Check(s); e != api.OK {
		return e
	}
	return bits.Check(t)
}

// checkLength tells what is wrong with a space, and then with a number of bytes.
func checkLength(s api.Space, n, most int) api.Errno {
	if e := Check(s); e != api.OK {
		return e
	}
	if n < 0 || n > most {
		return api.ErrArg
	}
	return api.OK
}
