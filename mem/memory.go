package mem

import (
	"iter"
	"slices"

	"tapline/api"
)

// anyPerm stands for the permission of an access that pages with any permissions permit.
const anyPerm = 0

// memory is a space whose bytes can be changed: they are copies.
type memory struct {
	perms []int
	pages [][api.PageSize]byte
}

// memoryOf returns the memory of a valid space.
func memoryOf(s api.Space) memory {
	m := memory{perms: s.Perm}
	for i := range s.Perm {
		m.pages = append(m.pages, [api.PageSize]byte(s.Bytes[api.PageSize*i:]))
	}
	return m
}

// space returns the space that the memory has become.
func (m memory) space() api.Space {
	s := api.Space{Perm: slices.Clone(m.perms)}
	for _, page := range m.pages {
		s.Bytes = append(s.Bytes, page[:]...)
	}
	return s
}

// cells returns the bytes of an access to n bytes, and the index of each, as far as there is no fault: with that it panics.
func (m memory) cells(at int64, n, perm int) iter.Seq2[int, *byte] {
	return func(yield func(int, *byte) bool) {
		for i := range n {
			if !yield(i, m.cell(at+int64(i), perm)) {
				return
			}
		}
	}
}

// cell returns the byte at an address, or panics with the fault of an access to it.
func (m memory) cell(at int64, perm int) *byte {
	if at < 0 || at >= int64(api.PageSize*len(m.pages)) {
		panic(api.Fault{Kind: api.FtMap, At: at})
	}
	page := at / api.PageSize
	if perm != anyPerm && m.perms[page]&perm == 0 {
		panic(api.Fault{Kind: refusal(perm), At: at})
	}
	return &m.pages[page][at%api.PageSize]
}

// refusal returns the kind of the fault of an access whose permission a page does not have.
func refusal(perm int) int {
	switch perm {
	case api.PmRead:
		return api.FtRead
	case api.PmWrite:
		return api.FtWrite
	}
	return api.FtExec
}

// caught executes work, and returns the fault with which it panicked, or the zero fault.
func caught(work func()) (f api.Fault) {
	defer func() {
		switch r := recover().(type) {
		case nil:
		case api.Fault:
			f = r
		default:
			panic(r)
		}
	}()
	work()
	return api.Fault{}
}

// read returns the bytes of an access, as far as there is no fault, and the fault.
func (m memory) read(at int64, n, perm int) ([]byte, api.Fault) {
	var b []byte
	f := caught(func() {
		for _, cell := range m.cells(at, n, perm) {
			b = append(b, *cell)
		}
	})
	return b, f
}

// write replaces the bytes of an access, as far as there is no fault, and returns the fault.
func (m memory) write(at int64, b []byte, perm int) api.Fault {
	return caught(func() {
		for i, cell := range m.cells(at, len(b), perm) {
			*cell = b[i]
		}
	})
}
