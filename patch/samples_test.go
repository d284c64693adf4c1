package patch_test

import (
	"math"
	"math/rand"
	"slices"
	"testing"

	"tapline/api"
	"tapline/insn"
)

// What the tests try.

const (
	none     = 0
	readable = api.PmRead
	writable = api.PmRead + api.PmWrite
	code     = api.PmExec
)

func random() *rand.Rand { return rand.New(rand.NewSource(7)) }

// enough fails if a test has tried less of something than it is meant to.
func enough(t *testing.T, what string, n, least int) {
	t.Helper()
	if n < least {
		t.Errorf("only %d %s; at least %d are to be tried", n, what, least)
	}
}

// far are addresses that no space has.
var far = []int64{-1, -64, 2048, 2049, 1 << 32, 1<<32 + 3, -1 << 32, math.MaxInt64, math.MaxInt64 - 11, math.MinInt64, math.MinInt64 + 3}

// assembled returns the bytes of an assembly text that begins at an address.
func assembled(t *testing.T, text string, at int64) []byte {
	t.Helper()
	b, _, line, e := insn.Assemble(text, at)
	if e != api.OK {
		t.Fatalf("line %d of %q has the error %d", line, text, e)
	}
	return b
}

func parsed(t *testing.T, line string) api.Insn {
	t.Helper()
	x, e := insn.Parse(line)
	if e != api.OK {
		t.Fatalf("%q has the error %d", line, e)
	}
	return x
}

// sample returns the space of the chapter's examples.
func sample(t *testing.T) api.Space {
	t.Helper()
	s := api.Space{Perm: []int{code, writable}, Bytes: make([]byte, 2*pageSize)}
	copy(s.Bytes, assembled(t, "inc r0, 1\njump .-6\ncall .+10", 0))
	return s
}

// with returns a space with breakpoints, each wanted so many times, at addresses at which instructions stand.
func with(s api.Space, n int, list ...int64) api.Patched {
	p := api.Patched{Space: copiedSpace(s)}
	for _, at := range list {
		p.L = append(p.L, api.Patch{At: at, Old: s.Bytes[at], N: n})
		p.Space.Bytes[at] = breakByte
	}
	return p
}

// nops returns a space with pages of nop.
func nops(pages int) api.Space {
	s := api.Space{Perm: slices.Repeat([]int{code}, pages)}
	s.Bytes = slices.Repeat([]byte{128 + api.InNop}, pages*pageSize)
	return s
}

// full returns a patched space with the most patches, at every second address from 1 on, and instructions that are not patched between them.
func full() api.Patched {
	var list []int64
	for i := range int64(mostPatches) {
		list = append(list, 2*i+1)
	}
	return with(nops(3), 1, list...)
}

// operations are those of the chapter on instructions.
func operations() []int {
	list := []int{api.InNop, api.InRet, api.InBreak, api.InMove, api.InSet, api.InLit, api.InInc, api.InLoad1, api.InLoad8, api.InStore1, api.InStore8, api.InJump, api.InCall, api.InJumpR, api.InCallR, api.InPush, api.InPop, api.InLea, api.InSys, api.InSwap}
	for op := api.InAdd; op <= api.InSar; op++ {
		list = append(list, op)
	}
	for op := api.InBeq; op <= api.InBge; op++ {
		list = append(list, op)
	}
	return list
}

// randomInstruction returns a well-formed instruction.
func randomInstruction(source *rand.Rand) api.Insn {
	list := operations()
	op := list[source.Intn(len(list))]
	for {
		x := api.Insn{Op: op, A: source.Intn(8), B: source.Intn(8), Imm: int64(source.Intn(41) - 20)}
		if source.Intn(4) == 0 {
			x.Imm = int64(source.Uint64()) >> source.Intn(64)
		}
		// Some operations have few operands.
		x.A *= source.Intn(2)
		x.B *= source.Intn(2)
		x.Imm *= int64(source.Intn(2))
		if insn.Check(x) == api.OK {
			return x
		}
	}
}

// randomSpace returns a valid space with a few pages; instructions stand in the code pages, also across two of them, and at the end of some there is an incomplete one.
func randomSpace(source *rand.Rand) api.Space {
	s := api.Space{Perm: []int{code, writable}}
	for range source.Intn(4) {
		s.Perm = append(s.Perm, []int{none, readable, writable, writable, code, code, code}[source.Intn(7)])
	}
	source.Shuffle(len(s.Perm), func(i, j int) { s.Perm[i], s.Perm[j] = s.Perm[j], s.Perm[i] })
	for len(s.Bytes) < pageSize*len(s.Perm) {
		more := []byte{byte(source.Intn(256))}
		if source.Intn(12) > 0 {
			more, _ = insn.Encode(randomInstruction(source))
		}
		s.Bytes = append(s.Bytes, more...)
	}
	s.Bytes = s.Bytes[:pageSize*len(s.Perm)]
	for page, perm := range s.Perm {
		for i := pageSize * page; perm != code && i < pageSize*(page+1); i++ {
			s.Bytes[i] = byte(source.Intn(256))
		}
	}
	return s
}

// places returns the addresses of a valid space at which instructions stand.
func places(s api.Space) []int64 {
	var list []int64
	for at := range int64(len(s.Bytes)) {
		if _, _, stands := wantStanding(s, at); stands {
			list = append(list, at)
		}
	}
	return list
}

// randomPatched returns a valid patched space; mostly it has some patches.
func randomPatched(source *rand.Rand) api.Patched {
	s := randomSpace(source)
	p := api.Patched{Space: copiedSpace(s)}
	few := source.Intn(4)
	for _, at := range places(s) {
		if source.Intn(4) < few && len(p.L) < mostPatches {
			p.L = append(p.L, api.Patch{At: at, Old: s.Bytes[at], N: []int{1, 1, 2, 3, mostN - 1, mostN}[source.Intn(6)]})
			p.Space.Bytes[at] = breakByte
		}
	}
	return p
}

// randomAddress returns an address that mostly is one of the space, and often that of a patch, or one near it.
func randomAddress(source *rand.Rand, p api.Patched) int64 {
	switch n := source.Intn(12); {
	case n == 0:
		return far[source.Intn(len(far))]
	case n < 7 && len(p.L) > 0:
		return p.L[source.Intn(len(p.L))].At
	case n == 7 && len(p.L) > 0:
		return p.L[source.Intn(len(p.L))].At + int64(source.Intn(7)-3)
	}
	return int64(source.Intn(len(p.Space.Bytes) + 1))
}

// randomRegister returns a number that often is an address of the space, also one near the end of a page.
func randomRegister(source *rand.Rand, p api.Patched) int64 {
	switch source.Intn(6) {
	case 0:
		return int64(source.Intn(5) - 2)
	case 1:
		return int64(source.Uint64()) >> source.Intn(64)
	case 2:
		return int64(pageSize*source.Intn(len(p.Space.Perm)+1) - source.Intn(20))
	}
	return randomAddress(source, p)
}

func randomRegisters(source *rand.Rand, p api.Patched) api.Regs {
	r := api.Regs{Pc: randomAddress(source, p)}
	for i := range r.R {
		r.R[i] = randomRegister(source, p)
	}
	if source.Intn(4) == 0 {
		r.R[source.Intn(8)] = r.R[source.Intn(8)]
	}
	return r
}

// randomSlot returns an address that often is near the program counter, or such that a branch to it or a register in it matters.
func randomSlot(source *rand.Rand, r api.Regs) int64 {
	switch source.Intn(6) {
	case 0:
		return far[source.Intn(len(far))]
	case 1:
		return int64(source.Uint64()) >> source.Intn(64)
	case 2:
		return r.R[source.Intn(8)] - int64(source.Intn(4))
	case 3:
		return r.Pc + int64(source.Intn(20000)-10000)
	}
	return r.Pc + int64(source.Intn(81)-40)
}

// randomEffect returns an effect that mostly can be applied.
func randomEffect(source *rand.Rand, p api.Patched) api.Effect {
	x := api.Effect{Regs: randomRegisters(source, p), Insn: randomInstruction(source)}
	x.At, x.Data = randomAddress(source, p), make([]byte, source.Intn(10))
	if page := slices.Index(p.Space.Perm, writable); source.Intn(4) > 0 {
		x.At = int64(pageSize*page + source.Intn(pageSize+3) - 1)
	}
	for i := range x.Data {
		x.Data[i] = byte(source.Intn(256))
	}
	if source.Intn(3) == 0 {
		x.At, x.Data = 0, nil
	}
	if source.Intn(6) == 0 {
		x.Trap = api.Trap{Kind: source.Intn(9) - 2, N: source.Intn(3)}
	}
	return x
}
