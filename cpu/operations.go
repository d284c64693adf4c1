package cpu

import "tapline/api"

// operation tells what the instructions of one operation do. What they read from memory and what they write there is at one place.
type operation struct {
	execute func(p *processor)
	place   func(x api.Insn, r api.Regs) int64
	reads   int // bytes of memory
	writes  int
}

// operations returns what each operation does, by its number.
func operations() []operation {
	return []operation{
		api.InNop:    {execute: (*processor).nop},
		api.InMove:   {execute: (*processor).move},
		api.InSet:    {execute: (*processor).set},
		api.InLit:    {execute: (*processor).set},
		api.InAdd:    {execute: (*processor).calculate},
		api.InSub:    {execute: (*processor).calculate},
		api.InMul:    {execute: (*processor).calculate},
		api.InDiv:    {execute: (*processor).calculate},
		api.InMod:    {execute: (*processor).calculate},
		api.InAnd:    {execute: (*processor).calculate},
		api.InOr:     {execute: (*processor).calculate},
		api.InXor:    {execute: (*processor).calculate},
		api.InShl:    {execute: (*processor).calculate},
		api.InShr:    {execute: (*processor).calculate},
		api.InSar:    {execute: (*processor).calculate},
		api.InInc:    {execute: (*processor).increase},
		api.InLoad1:  {execute: (*processor).load, place: operand, reads: 1},
		api.InLoad8:  {execute: (*processor).load, place: operand, reads: wordSize},
		api.InStore1: {execute: (*processor).store, place: operand, writes: 1},
		api.InStore8: {execute: (*processor).store, place: operand, writes: wordSize},
		api.InBeq:    {execute: (*processor).branch},
		api.InBne:    {execute: (*processor).branch},
		api.InBlt:    {execute: (*processor).branch},
		api.InBge:    {execute: (*processor).branch},
		api.InJump:   {execute: (*processor).branch},
		api.InJumpR:  {execute: (*processor).jump},
		api.InCall:   {execute: (*processor).call, place: below, writes: wordSize},
		api.InCallR:  {execute: (*processor).callRegister, place: below, writes: wordSize},
		api.InRet:    {execute: (*processor).ret, place: top, reads: wordSize},
		api.InPush:   {execute: (*processor).push, place: below, writes: wordSize},
		api.InPop:    {execute: (*processor).pop, place: top, reads: wordSize},
		api.InLea:    {execute: (*processor).lea},
		api.InSys:    {execute: (*processor).sys},
		api.InSwap:   {execute: (*processor).swap, place: operand, reads: wordSize, writes: wordSize},
		api.InBreak:  {execute: (*processor).breakpoint},
	}
}

// footprint returns the parts of memory that an instruction of the operation reads, and then those that it writes.
func (o operation) footprint(x api.Insn, r api.Regs) []api.Access {
	var list []api.Access
	if o.reads > 0 {
		list = append(list, api.Access{At: o.place(x, r), Size: o.reads})
	}
	if o.writes > 0 {
		list = append(list, api.Access{At: o.place(x, r), Size: o.writes, Write: true})
	}
	return list
}

// operand returns the address that an instruction names.
func operand(x api.Insn, r api.Regs) int64 { return r.R[x.B] + x.Imm }

// top returns the address of what was pushed last.
func top(_ api.Insn, r api.Regs) int64 { return r.R[api.SP] }

// below returns the address of what is pushed next.
func below(_ api.Insn, r api.Regs) int64 { return r.R[api.SP] - wordSize }

// taken reports whether a well-formed instruction jumps.
func taken(x api.Insn, r api.Regs) bool {
	a, b := r.R[x.A], r.R[x.B]
	holds := true
	switch x.Op {
	case api.InJump, api.InJumpR, api.InCall, api.InCallR, api.InRet:
		return true
	case api.InBne:
		holds = false
		fallthrough
	case api.InBeq:
		return (a == b) == holds
	case api.InBge:
		holds = false
		fallthrough
	case api.InBlt:
		return (a < b) == holds
	}
	return false
}

// What follows executes operations: Pc is next already, and word is what the instruction reads from memory, if it does.

func (p *processor) nop() {}

func (p *processor) move() { p.R[p.insn.A] = p.R[p.insn.B] }

func (p *processor) set() { p.R[p.insn.A] = p.insn.Imm }

func (p *processor) increase() { p.R[p.insn.A] += p.insn.Imm }

func (p *processor) lea() { p.R[p.insn.A] = p.next + p.insn.Imm }

func (p *processor) calculate() {
	v, defined, _ := Alu(p.insn.Op, p.R[p.insn.A], p.R[p.insn.B])
	if !defined {
		panic(trapped{Kind: api.TrDivide})
	}
	p.R[p.insn.A] = v
}

func (p *processor) load() { p.R[p.insn.A] = p.word }

func (p *processor) store() { p.word = p.R[p.insn.A] }

func (p *processor) swap() { p.R[p.insn.A], p.word = p.word, p.R[p.insn.A] }

func (p *processor) branch() {
	if taken(p.insn, p.Regs) {
		p.Pc = p.next + p.insn.Imm
	}
}

func (p *processor) jump() { p.Pc = p.R[p.insn.A] }

// pushes makes v what the instruction stores as the new top.
func (p *processor) pushes(v int64) {
	p.word = v
	p.R[api.SP] -= wordSize
}

func (p *processor) push() { p.pushes(p.R[p.insn.A]) }

func (p *processor) call() {
	p.pushes(p.next)
	p.branch()
}

func (p *processor) callRegister() {
	// The target comes first: the register can be the stack pointer.
	p.jump()
	p.pushes(p.next)
}

func (p *processor) ret() {
	p.Pc = p.word
	p.R[api.SP] += wordSize
}

func (p *processor) pop() {
	// The register comes last: it can be the stack pointer.
	p.R[api.SP] += wordSize
	p.R[p.insn.A] = p.word
}

func (p *processor) sys() { panic(trapped{Kind: api.TrSys, N: int(p.insn.Imm)}) }

func (p *processor) breakpoint() { panic(trapped{Kind: api.TrBreak}) }
