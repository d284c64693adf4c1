package cpu

import (
	"tapline/api"
	"tapline/insn"
	"tapline/mem"
)

const (
	longest  = 12 // bytes of the longest encoding
	wordSize = 8  // bytes of a register
)

// processor is at work on one instruction: the registers that it embeds are those ahead of it, and become those behind it.
type processor struct {
	api.Regs
	space api.Space
	insn  api.Insn
	next  int64
	word  int64 // what the instruction reads from memory, and then what it stores
	at    int64
	data  []byte
}

// trapped is what an instruction with a trap panics with.
type trapped api.Trap

// effect returns the effect of an instruction, which work executes.
func (p *processor) effect(work func()) api.Effect {
	ahead := p.Regs
	t := caught(work)
	switch t.Kind {
	case api.TrNone:
		return api.Effect{Regs: p.Regs, At: p.at, Data: p.data, Insn: p.insn}
	case api.TrSys:
		ahead.Pc = p.next
	}
	return api.Effect{Regs: ahead, Trap: t, Insn: p.insn}
}

// caught executes work, and returns the trap with which it panicked, or the zero trap.
func caught(work func()) (t api.Trap) {
	defer func() {
		switch r := recover().(type) {
		case nil:
		case trapped:
			t = api.Trap(r)
		default:
			panic(r)
		}
	}()
	work()
	return api.Trap{}
}

// fetch finds the instruction at Pc.
func (p *processor) fetch() {
	// The space is valid, and the numbers of bytes are small: there are no errors but Decode's.
	b, _ := mem.Fetch(p.space, p.Pc, longest)
	x, _, e := insn.Decode(b)
	switch e {
	case api.OK:
		p.insn = x
	case api.ErrShort:
		f, _ := mem.Access(p.space, p.Pc, len(b)+1, api.PmExec)
		panic(trapped{Kind: api.TrFault, Fault: f})
	default:
		panic(trapped{Kind: api.TrIllegal})
	}
}

// execute executes the instruction, which is well-formed.
func (p *processor) execute() {
	// A well-formed instruction has a length.
	p.next, _ = Next(p.insn, p.Pc)
	o := operations()[p.insn.Op]
	parts := o.footprint(p.insn, p.Regs)
	for _, part := range parts {
		p.permit(part)
	}
	for _, part := range parts {
		if !part.Write {
			p.word, _, _ = mem.Load(p.space, part.At, api.Int{Size: part.Size})
		}
	}
	p.Pc = p.next
	o.execute(p)
	for _, part := range parts {
		if part.Write {
			p.at, p.data = part.At, lowest(p.word, part.Size)
		}
	}
}

// permit traps unless an access is permitted.
func (p *processor) permit(a api.Access) {
	perm := api.PmRead
	if a.Write {
		perm = api.PmWrite
	}
	f, _ := mem.Access(p.space, a.At, a.Size, perm)
	if f.Kind != api.FtNone {
		panic(trapped{Kind: api.TrFault, Fault: f})
	}
}

// lowest returns the lowest n bytes of v, the least significant first.
func lowest(v int64, n int) []byte {
	var b []byte
	for i := range n {
		b = append(b, byte(v>>(8*i)))
	}
	return b
}
