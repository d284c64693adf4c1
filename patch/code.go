package patch

import (
	"bytes"
	"slices"
	"sort"

	"tapline/api"
	"tapline/cpu"
	"tapline/insn"
	"tapline/mem"
)

const (
	breakByte = 204  // the encoding of InBreak
	longest   = 12   // bytes of the longest encoding
	mostN     = 1000 // how often a breakpoint can be wanted
)

// address is where an instruction stands.
type address struct{ at int64 }

// breakpoint is a patched address, and the instruction that stands there in the clean space.
type breakpoint struct {
	address
	insn api.Insn
	size int
	n    int
}

// code is what a valid patched space follows from: its clean space, and its breakpoints by increasing addresses.
type code struct {
	clean api.Space
	list  []breakpoint
}

// refusal is what code panics with where it cannot do what it is asked for.
type refusal api.Errno

// require panics with an error unless something holds.
func require(holds bool, e api.Errno) {
	if !holds {
		panic(refusal(e))
	}
}

// answer returns what work returns, or the error with which it panicked.
func answer[T any](work func() T) (result T, e api.Errno) {
	defer func() {
		switch r := recover().(type) {
		case nil:
		case refusal:
			e = api.Errno(r)
		default:
			panic(r)
		}
	}()
	return work(), api.OK
}

// opened returns the code of a patched space, or ErrPatch.
func opened(p api.Patched) (code, api.Errno) {
	return answer(func() code { return codeOf(p) })
}

// changed returns the patched space that another one becomes by work.
func changed(p api.Patched, work func(*code)) (api.Patched, api.Errno) {
	return answer(func() api.Patched {
		c := codeOf(p)
		work(&c)
		return c.patched()
	})
}

// codeOf returns the code of a patched space in memory of its own, or panics with ErrPatch.
func codeOf(p api.Patched) code {
	require(mem.Check(p.Space) == api.OK && len(p.L) <= api.MaxPatches, api.ErrPatch)
	c := code{clean: copied(p.Space)}
	for i, x := range p.L {
		require(i == 0 || p.L[i-1].At < x.At, api.ErrPatch)
		require(0 <= x.At && x.At < int64(len(p.Space.Bytes)) && p.Space.Bytes[x.At] == breakByte, api.ErrPatch)
		require(1 <= x.N && x.N <= mostN, api.ErrPatch)
		c.clean.Bytes[x.At] = x.Old
	}
	// Instructions are looked for only now that all bytes are those of the clean space.
	for _, x := range p.L {
		c.list = append(c.list, c.breakpoint(x.At, x.N, api.ErrPatch))
	}
	return c
}

// patched returns the patched space of the code.
func (c *code) patched() api.Patched {
	p := api.Patched{Space: copied(c.clean)}
	for _, b := range c.list {
		p.L = append(p.L, api.Patch{At: b.at, Old: c.clean.Bytes[b.at], N: b.n})
		p.Space.Bytes[b.at] = breakByte
	}
	return p
}

func copied(s api.Space) api.Space {
	return api.Space{Perm: slices.Clone(s.Perm), Bytes: bytes.Clone(s.Bytes)}
}

// breakpoint returns a breakpoint at an address of the clean space, or panics with an error unless an instruction stands there.
func (c *code) breakpoint(at int64, n int, otherwise api.Errno) breakpoint {
	// The space is valid, and the number of bytes small: there is no error.
	b, _ := mem.Fetch(c.clean, at, longest)
	x, size, e := insn.Decode(b)
	require(e == api.OK, otherwise)
	return breakpoint{address: address{at}, insn: x, size: size, n: n}
}

// search returns how many elements of a sorted list are ahead of what is looked for: these are the first ones.
func search[T any](list []T, isAhead func(T) bool) int {
	return sort.Search(len(list), func(i int) bool { return !isAhead(list[i]) })
}

// find returns the index that the breakpoint at an address has, or would have, and whether there is one.
func (c *code) find(at int64) (int, bool) {
	i := search(c.list, func(b breakpoint) bool { return b.at < at })
	return i, i < len(c.list) && c.list[i].at == at
}

// index returns the index of the breakpoint at an address, or panics with ErrNone.
func (c *code) index(at int64) int {
	i, is := c.find(at)
	require(is, api.ErrNone)
	return i
}

func (c *code) install(at int64) {
	i, is := c.find(at)
	if is {
		require(c.list[i].n < mostN, api.ErrLong)
		c.list[i].n++
		return
	}
	b := c.breakpoint(at, 1, api.ErrCode)
	require(len(c.list) < api.MaxPatches, api.ErrLong)
	c.list = slices.Insert(c.list, i, b)
}

func (c *code) remove(at int64) {
	i := c.index(at)
	c.list[i].n--
	if c.list[i].n == 0 {
		c.list = slices.Delete(c.list, i, i+1)
	}
}

// apply stores what an effect stores. It changes no breakpoint: these are in code pages, which nothing is stored to.
func (c *code) apply(x api.Effect) {
	s, e := cpu.Apply(c.clean, x)
	require(e == api.OK, e)
	c.clean = s
}

// rebase replaces the clean space.
func (c *code) rebase(s api.Space) {
	e := mem.Check(s)
	require(e == api.OK, e)
	c.clean = s
	for i, b := range c.list {
		c.list[i] = c.breakpoint(b.at, b.n, api.ErrCode)
	}
}
