package patch_test

import (
	"math/big"
	"slices"
	"testing"

	"tapline/api"
	"tapline/cpu"
	"tapline/insn"
	"tapline/mem"
	"tapline/patch"
)

// What the tests know of the chapter, written without package patch: sentence by sentence, on patched spaces as they are.

const (
	breakByte   = 204
	mostPatches = 64
	mostN       = 1000
	pageSize    = 64
)

// wantStanding returns the instruction that stands at an address, and its length, if there is one.
func wantStanding(s api.Space, at int64) (api.Insn, int, bool) {
	var b []byte
	for ; len(b) < 12 && isCode(s, at); at++ {
		b = append(b, s.Bytes[at])
	}
	x, n, e := insn.Decode(b)
	return x, n, e == api.OK
}

func isCode(s api.Space, at int64) bool {
	return 0 <= at && at < int64(len(s.Bytes)) && s.Perm[at/pageSize] == api.PmExec
}

// wantValid reports whether a patched space is valid.
func wantValid(p api.Patched) bool {
	if mem.Check(p.Space) != api.OK || len(p.L) > mostPatches {
		return false
	}
	for i, x := range p.L {
		if i > 0 && x.At <= p.L[i-1].At || x.N < 1 || x.N > mostN || !isCode(p.Space, x.At) || p.Space.Bytes[x.At] != breakByte {
			return false
		}
	}
	clean := wantClean(p)
	return !slices.ContainsFunc(p.L, func(x api.Patch) bool {
		_, _, stands := wantStanding(clean, x.At)
		return !stands
	})
}

// wantClean returns the clean space of a patched space whose addresses are some of its space.
func wantClean(p api.Patched) api.Space {
	s := copiedSpace(p.Space)
	for _, x := range p.L {
		s.Bytes[x.At] = x.Old
	}
	return s
}

// placeOf returns the index in L of the patch at an address, or -1.
func placeOf(p api.Patched, at int64) int {
	return slices.IndexFunc(p.L, func(x api.Patch) bool { return x.At == at })
}

// outcome is what a function that returns a patched space returns.
type outcome struct {
	p api.Patched
	e api.Errno
}

// wantInstalled returns what Install of a valid patched space returns.
func wantInstalled(p api.Patched, at int64) outcome {
	q := copied(p)
	if i := placeOf(p, at); i >= 0 {
		if q.L[i].N == mostN {
			return outcome{e: api.ErrLong}
		}
		q.L[i].N++
		return outcome{p: q}
	}
	if _, _, stands := wantStanding(p.Space, at); !stands {
		return outcome{e: api.ErrCode}
	}
	if len(p.L) == mostPatches {
		return outcome{e: api.ErrLong}
	}
	q.L = append(q.L, api.Patch{At: at, Old: p.Space.Bytes[at], N: 1})
	slices.SortFunc(q.L, func(a, b api.Patch) int { return int(a.At - b.At) })
	q.Space.Bytes[at] = breakByte
	return outcome{p: q}
}

// wantRemoved returns what Remove of a valid patched space returns.
func wantRemoved(p api.Patched, at int64) outcome {
	i := placeOf(p, at)
	if i < 0 {
		return outcome{e: api.ErrNone}
	}
	q := copied(p)
	if q.L[i].N > 1 {
		q.L[i].N--
		return outcome{p: q}
	}
	q.Space.Bytes[at] = q.L[i].Old
	q.L = append(q.L[:i], q.L[i+1:]...)
	return outcome{p: q}
}

// original is what Original returns.
type original struct {
	x api.Insn
	n int
	e api.Errno
}

// wantOriginal returns what Original of a valid patched space returns.
func wantOriginal(p api.Patched, at int64) original {
	if placeOf(p, at) < 0 {
		return original{e: api.ErrNone}
	}
	x, n, _ := wantStanding(wantClean(p), at)
	return original{x: x, n: n}
}

// displacement is what Displace returns.
type displacement struct {
	x    api.Insn
	mode int
	e    api.Errno
}

// reach returns the least Imm of the instructions of the chapter's second group, and 0 for all others.
func reach(op int) int64 {
	switch op {
	case api.InBeq, api.InBne, api.InBlt, api.InBge:
		return -64
	case api.InJump, api.InLea:
		return -8192
	}
	return 0
}

// wantDisplaced returns what Displace of a well-formed instruction returns.
func wantDisplaced(x api.Insn, from, to int64) displacement {
	least := reach(x.Op)
	if least == 0 {
		if slices.Contains([]int{api.InCall, api.InCallR, api.InSys, api.InBreak}, x.Op) {
			return displacement{x: x, mode: api.PtEmulate}
		}
		return displacement{x: x, mode: api.PtCopy}
	}
	imm := wrapped(x.Imm, from, new(big.Int).Neg(big.NewInt(to)))
	if imm < least || imm >= -least || imm == 0 && x.Op != api.InLea {
		return displacement{x: x, mode: api.PtEmulate}
	}
	x.Imm = imm
	return displacement{x: x, mode: api.PtFix}
}

// wrapped returns the sum of numbers modulo 2^64, as a signed number.
func wrapped(a, b int64, c *big.Int) int64 {
	sum := new(big.Int).Add(big.NewInt(a), big.NewInt(b))
	sum.Mod(sum.Add(sum, c), new(big.Int).Lsh(big.NewInt(1), 64))
	return int64(sum.Uint64())
}

// after returns the address n bytes behind another one.
func after(at int64, n int) int64 { return wrapped(at, int64(n), new(big.Int)) }

// stepped is what Step returns.
type stepped struct {
	effect api.Effect
	mode   int
	e      api.Errno
}

// wantStepped returns what Step of a valid patched space returns.
func wantStepped(p api.Patched, r api.Regs, slot int64) stepped {
	if placeOf(p, r.Pc) < 0 {
		effect, e := cpu.Step(p.Space, r)
		return stepped{effect, api.PtNone, e}
	}
	x, n, _ := wantStanding(wantClean(p), r.Pc)
	d := wantDisplaced(x, r.Pc, slot)
	if d.mode == api.PtEmulate {
		effect, e := cpu.Exec(x, p.Space, r)
		return stepped{effect, d.mode, e}
	}
	there := r
	there.Pc = slot
	effect, e := cpu.Exec(d.x, p.Space, there)
	effect.Insn = x
	if effect.Trap.Kind != api.TrNone {
		effect.Regs.Pc = r.Pc
	} else if x.Op != api.InJumpR && x.Op != api.InRet && effect.Regs.Pc == after(slot, n) {
		effect.Regs.Pc = after(r.Pc, n)
	}
	return stepped{effect, d.mode, e}
}

// wantApplied returns what Apply of a valid patched space returns.
func wantApplied(p api.Patched, x api.Effect) outcome {
	s, e := cpu.Apply(p.Space, x)
	if e != api.OK {
		return outcome{e: e}
	}
	return outcome{p: api.Patched{Space: s, L: p.L}}
}

// wantRebased returns what Rebase of a valid patched space returns.
func wantRebased(p api.Patched, s api.Space) outcome {
	if e := mem.Check(s); e != api.OK {
		return outcome{e: e}
	}
	q := api.Patched{Space: copiedSpace(s)}
	for _, x := range p.L {
		if _, _, stands := wantStanding(s, x.At); !stands {
			return outcome{e: api.ErrCode}
		}
		q.L = append(q.L, api.Patch{At: x.At, Old: s.Bytes[x.At], N: x.N})
		q.Space.Bytes[x.At] = breakByte
	}
	return outcome{p: q}
}

func copiedSpace(s api.Space) api.Space {
	return api.Space{Perm: slices.Clone(s.Perm), Bytes: slices.Clone(s.Bytes)}
}

func copied(p api.Patched) api.Patched {
	return api.Patched{Space: copiedSpace(p.Space), L: slices.Clone(p.L)}
}

// The comparison of values, without package patch.

func equalSpaces(a, b api.Space) bool {
	return slices.Equal(a.Perm, b.Perm) && slices.Equal(a.Bytes, b.Bytes)
}

func equal(a, b api.Patched) bool { return equalSpaces(a.Space, b.Space) && slices.Equal(a.L, b.L) }

func equalOutcomes(a, b outcome) bool { return a.e == b.e && equal(a.p, b.p) }

func equalSteps(a, b stepped) bool {
	return a.e == b.e && a.mode == b.mode && equalEffects(a.effect, b.effect)
}

func equalEffects(a, b api.Effect) bool {
	return a.Regs == b.Regs && a.At == b.At && slices.Equal(a.Data, b.Data) && a.Trap == b.Trap && a.Insn == b.Insn
}

// The functions of package patch, with their results as values that can be compared.

func install(p api.Patched, at int64) outcome {
	q, e := patch.Install(p, at)
	return outcome{q, e}
}

func remove(p api.Patched, at int64) outcome {
	q, e := patch.Remove(p, at)
	return outcome{q, e}
}

func apply(p api.Patched, x api.Effect) outcome {
	q, e := patch.Apply(p, x)
	return outcome{q, e}
}

func rebase(p api.Patched, s api.Space) outcome {
	q, e := patch.Rebase(p, s)
	return outcome{q, e}
}

func originalOf(p api.Patched, at int64) original {
	x, n, e := patch.Original(p, at)
	return original{x, n, e}
}

func displace(x api.Insn, from, to int64) displacement {
	d, mode, e := patch.Displace(x, from, to)
	return displacement{d, mode, e}
}

func step(p api.Patched, r api.Regs, slot int64) stepped {
	effect, mode, e := patch.Step(p, r, slot)
	return stepped{effect, mode, e}
}

// place is what Find returns.
type place struct {
	i  int
	is bool
}

func find(p api.Patched, at int64) place {
	i, is := patch.Find(p, at)
	return place{i, is}
}

func clean(t *testing.T, p api.Patched) api.Space {
	t.Helper()
	s, e := patch.Clean(p)
	if e != api.OK {
		t.Fatalf("Clean of %v has the error %d", p, e)
	}
	return s
}
