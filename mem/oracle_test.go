package mem_test

import (
	"math"
	"math/big"
	"math/rand"
	"slices"

	"tapline/api"
	"tapline/mem"
)

// What the tests know of the chapter, written without package mem: a space as a map from addresses to bytes.

const (
	none      = 0
	readable  = api.PmRead
	writable  = api.PmRead + api.PmWrite
	code      = api.PmExec
	pageSize  = 64
	mostPages = 32
	mostBytes = mostPages * pageSize
)

var (
	perms    = []int{none, readable, writable, code}
	accesses = []int{api.PmRead, api.PmWrite, api.PmExec}

	u1 = api.Int{Size: 1}
	u2 = api.Int{Size: 2}
	u4 = api.Int{Size: 4}
	u8 = api.Int{Size: 8}

	types = []api.Int{u1, u2, u4, u8, {Size: 1, Signed: true}, {Size: 2, Signed: true}, {Size: 4, Signed: true}, {Size: 8, Signed: true}}

	invalidTypes = []api.Int{{}, {Signed: true}, {Size: 3}, {Size: 5, Signed: true}, {Size: 9}, {Size: 16}, {Size: -1}, {Size: -8, Signed: true}, {Size: 1<<32 + 4}, {Size: math.MaxInt}, {Size: math.MinInt}}
	strange      = []int{-1, -2, -64, 1 << 31, 1 << 32, 1<<32 + 1, 1<<32 + 2, -1 << 32, math.MaxInt, math.MaxInt - 1, math.MinInt, math.MinInt + 1, math.MinInt + 4}
)

func random() *rand.Rand { return rand.New(rand.NewSource(3)) }

// filled returns a space with these permissions and bytes that differ from their neighbours.
func filled(perms ...int) api.Space {
	s := api.Space{Perm: perms}
	for i := range pageSize * len(perms) {
		s.Bytes = append(s.Bytes, byte(37*i+i/pageSize+1))
	}
	return s
}

// sample returns the space of the chapter's examples.
func sample() api.Space {
	return api.Space{Perm: []int{writable, readable, code}, Bytes: make([]byte, 3*pageSize)}
}

// spaces returns valid spaces: without pages, with all pairs of permissions, and with the most pages.
func spaces() []api.Space {
	list := []api.Space{{}, {Perm: []int{}, Bytes: []byte{}}, sample()}
	for _, a := range perms {
		list = append(list, filled(a))
		for _, b := range perms {
			list = append(list, filled(a, b))
		}
	}
	many := make([]int, mostPages)
	for i := range many {
		many[i] = perms[i*i%7%4]
	}
	return append(list, filled(writable, writable, writable), filled(readable, writable, readable, code, code), filled(many...))
}

// invalidSpaces returns spaces that are not valid.
func invalidSpaces() []api.Space {
	list := []api.Space{
		{Bytes: []byte{0}}, {Bytes: make([]byte, pageSize)}, {Perm: []int{0}}, {Perm: []int{1, 1}, Bytes: make([]byte, pageSize)},
		{Perm: []int{0}, Bytes: make([]byte, pageSize-1)}, {Perm: []int{0}, Bytes: make([]byte, pageSize+1)}, {Perm: []int{3}, Bytes: make([]byte, 2*pageSize)},
		filled(make([]int, mostPages+1)...), filled(make([]int, 2*mostPages)...), {Perm: make([]int, mostPages+1)}, {Bytes: make([]byte, mostBytes+pageSize)},
	}
	for _, perm := range append(strange, 2, 5, 6, 7, 8, 9, 11, 12, 16) {
		list = append(list, filled(perm), filled(writable, perm), filled(perm, code, none))
	}
	return list
}

// randomSpace returns a valid space with few pages, most of which can be written.
func randomSpace(source *rand.Rand) api.Space {
	s := api.Space{}
	for range 1 + source.Intn(5) {
		s.Perm = append(s.Perm, []int{none, readable, writable, writable, writable, code}[source.Intn(6)])
	}
	s.Bytes = make([]byte, pageSize*len(s.Perm))
	for i := range s.Bytes {
		s.Bytes[i] = byte(source.Intn(256))
	}
	return s
}

// randomAddress returns an address that mostly is one of the space, and often is near the edge of a page.
func randomAddress(source *rand.Rand, s api.Space) int64 {
	switch source.Intn(3) {
	case 0:
		return int64(pageSize*source.Intn(len(s.Perm)+1) + source.Intn(17) - 8)
	default:
		return int64(source.Intn(len(s.Bytes)))
	}
}

// addresses returns the addresses of a space that are near the edge of a page, some others, and some that are far from all spaces.
func addresses(s api.Space) []int64 {
	list := []int64{math.MinInt64, math.MinInt64 + 1, math.MinInt64 + 64, math.MaxInt64, math.MaxInt64 - 1, math.MaxInt64 - 3, math.MaxInt64 - 7, math.MaxInt64 - 8, math.MaxInt64 - 2047, -1 << 32, 1<<32 - 1, 1 << 32, 1<<32 + 1, 1<<32 + 70, 1 << 62, mostBytes, mostBytes - 1, 10 * mostBytes, -mostBytes, -100, -64}
	for page := range len(s.Perm) + 1 {
		for near := -9; near <= 9; near++ {
			list = append(list, int64(pageSize*page+near))
		}
		list = append(list, int64(pageSize*page+20), int64(pageSize*page+33))
	}
	return list
}

// cell is a byte of a space.
type cell struct {
	perm  int
	value byte
}

func cellsOf(s api.Space) map[int64]cell {
	cells := map[int64]cell{}
	for page, perm := range s.Perm {
		for i := range pageSize {
			at := pageSize*page + i
			cells[int64(at)] = cell{perm, s.Bytes[at]}
		}
	}
	return cells
}

// wantFaultOf returns the fault of an access to one byte; the permission 0 asks only that there is one.
func wantFaultOf(cells map[int64]cell, at int64, perm int) api.Fault {
	c, is := cells[at]
	switch {
	case !is:
		return api.Fault{Kind: api.FtMap, At: at}
	case perm == api.PmRead && c.perm != readable && c.perm != writable:
		return api.Fault{Kind: api.FtRead, At: at}
	case perm == api.PmWrite && c.perm != writable:
		return api.Fault{Kind: api.FtWrite, At: at}
	case perm == api.PmExec && c.perm != code:
		return api.Fault{Kind: api.FtExec, At: at}
	}
	return api.Fault{}
}

// wantAccess returns the bytes ahead of the first fault of an access, and this fault.
func wantAccess(cells map[int64]cell, at int64, n, perm int) ([]byte, api.Fault) {
	var b []byte
	for i := range n {
		// The index of a byte that lies behind the end of int64 is in no map.
		here := at + int64(i)
		if f := wantFaultOf(cells, here, perm); f != (api.Fault{}) {
			return b, f
		}
		b = append(b, cells[here].value)
	}
	return b, api.Fault{}
}

// wantValue returns the value of a type whose bytes are b.
func wantValue(t api.Int, b []byte) int64 {
	n := new(big.Int)
	for i := len(b) - 1; i >= 0; i-- {
		n.Lsh(n, 8)
		n.Add(n, big.NewInt(int64(b[i])))
	}
	if t.Signed && b[len(b)-1] >= 128 {
		n.Sub(n, new(big.Int).Lsh(big.NewInt(1), uint(8*len(b))))
	}
	return int64(new(big.Int).And(n, new(big.Int).SetUint64(math.MaxUint64)).Uint64())
}

// wantBytes returns the lowest bytes of v, the least significant first.
func wantBytes(size int, v int64) []byte {
	var b []byte
	n := new(big.Int).SetUint64(uint64(v))
	for range size {
		rest := new(big.Int)
		n.DivMod(n, big.NewInt(256), rest)
		b = append(b, byte(rest.Int64()))
	}
	return b
}

// wantWritten returns the space in which the bytes at an address are b, or the fault of an access to them.
func wantWritten(s api.Space, at int64, b []byte, perm int) (api.Space, api.Fault) {
	if _, f := wantAccess(cellsOf(s), at, len(b), perm); f != (api.Fault{}) {
		return api.Space{}, f
	}
	changed := copied(s)
	for i, value := range b {
		changed.Bytes[at+int64(i)] = value
	}
	return changed, api.Fault{}
}

func copied(s api.Space) api.Space {
	return api.Space{Perm: slices.Clone(s.Perm), Bytes: slices.Clone(s.Bytes)}
}

// equal reports whether two spaces are the same, without package mem.
func equal(a, b api.Space) bool {
	return slices.Equal(a.Perm, b.Perm) && slices.Equal(a.Bytes, b.Bytes)
}

func isZero(s api.Space) bool {
	return len(s.Perm) == 0 && len(s.Bytes) == 0
}

// The functions of package mem, with their results as values that can be compared.

type loaded struct {
	v int64
	f api.Fault
	e api.Errno
}

func load(s api.Space, at int64, t api.Int) loaded {
	v, f, e := mem.Load(s, at, t)
	return loaded{v, f, e}
}

type found struct {
	bytes string
	f     api.Fault
	e     api.Errno
}

func peek(s api.Space, at int64, n int) found {
	b, f, e := mem.Peek(s, at, n)
	return found{string(b), f, e}
}

func fetch(s api.Space, at int64, n int) found {
	b, e := mem.Fetch(s, at, n)
	return found{string(b), api.Fault{}, e}
}

func text(s api.Space, at int64, most int) found {
	b, f, e := mem.String(s, at, most)
	return found{b, f, e}
}

type accessed struct {
	f api.Fault
	e api.Errno
}

func access(s api.Space, at int64, n, perm int) accessed {
	f, e := mem.Access(s, at, n, perm)
	return accessed{f, e}
}
