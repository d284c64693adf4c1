package patch

import (
	"tapline/api"
	"tapline/cpu"
	"tapline/insn"
)

// displaced returns what is executed at `to` in the place of a well-formed instruction at `from`, and how.
func displaced(x api.Insn, from, to int64) (api.Insn, int) {
	fixed := x
	fixed.Imm += from - to
	switch x.Op {
	case api.InBeq, api.InBne, api.InBlt, api.InBge, api.InJump:
		// With the following instruction as its target it could not be told whether it jumps.
		if fixed.Imm == 0 {
			return x, api.PtEmulate
		}
		fallthrough
	case api.InLea:
		if insn.Check(fixed) == api.OK {
			return fixed, api.PtFix
		}
		fallthrough
	case api.InCall, api.InCallR, api.InSys, api.InBreak:
		return x, api.PtEmulate
	}
	return x, api.PtCopy
}

// execute returns the effect of the instruction under a breakpoint at r.Pc, and how it was executed. The space and the instruction are valid, so that there are no errors.
func (b breakpoint) execute(s api.Space, r api.Regs, slot int64) (api.Effect, int) {
	d, mode := displaced(b.insn, b.at, slot)
	if mode == api.PtEmulate {
		effect, _ := cpu.Exec(b.insn, s, r)
		return effect, mode
	}
	r.Pc = slot
	effect, _ := cpu.Exec(d, s, r)
	effect.Insn = b.insn
	effect.Regs.Pc = b.returned(effect, slot)
	return effect, mode
}

// returned returns the program counter behind the instruction where it stands, from its effect in the slot.
func (b breakpoint) returned(e api.Effect, slot int64) int64 {
	isAbsolute := b.insn.Op == api.InJumpR || b.insn.Op == api.InRet
	switch {
	case e.Trap.Kind != api.TrNone:
		return b.at
	case !isAbsolute && e.Regs.Pc == slot+int64(b.size):
		return b.at + int64(b.size)
	}
	return e.Regs.Pc
}
