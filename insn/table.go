package insn

import (
	"math"

	"tapline/api"
)

const stackRegister = 7

// The registers that an operation reads or writes.
const (
	useA = 1 << iota
	useB
	useStack
)

// The operands of an instruction line.
const (
	operandA = iota
	operandB
	operandNumber
	operandAddress  // [B] or [B+Imm]
	operandIndirect // [B]
	operandTarget
)

// shape is the shape of instructions: operations of one shape have the same operands, at the same places of lines and encodings.
type shape int

const (
	shapeBare shape = iota
	shapeA
	shapeAB
	shapeWide
	shapeShort
	shapeLoad
	shapeStore
	shapeBranch
	shapeFar
	shapeLea
	shapeSys
	shapeSwap
)

// layout describes a shape. An encoding has a byte for the registers, if there are any, and after it those of Imm.
type layout struct {
	registers       int // 1: A; 2: A and B
	immediate       int // the bytes of Imm
	least, greatest int64
	operands        []int // as they follow in a line
}

var layouts = [...]layout{
	shapeBare:   {0, 0, 0, 0, nil},
	shapeA:      {1, 0, 0, 0, []int{operandA}},
	shapeAB:     {2, 0, 0, 0, []int{operandA, operandB}},
	shapeWide:   {1, wideBytes, math.MinInt64, math.MaxInt64, []int{operandA, operandNumber}},
	shapeShort:  {1, 1, -64, 63, []int{operandA, operandNumber}},
	shapeLoad:   {2, 1, -64, 63, []int{operandA, operandAddress}},
	shapeStore:  {2, 1, -64, 63, []int{operandAddress, operandA}},
	shapeBranch: {2, 1, -64, 63, []int{operandA, operandB, operandTarget}},
	shapeFar:    {0, 2, -8192, 8191, []int{operandTarget}},
	shapeLea:    {1, 2, -8192, 8191, []int{operandA, operandTarget}},
	shapeSys:    {0, 1, 0, 127, []int{operandNumber}},
	shapeSwap:   {2, 0, 0, 0, []int{operandA, operandIndirect}},
}

func (s shape) length() int {
	if layouts[s].registers == 0 {
		return 1 + layouts[s].immediate
	}
	return 2 + layouts[s].immediate
}

func (s shape) fits(immediate int64) bool {
	return layouts[s].least <= immediate && immediate <= layouts[s].greatest
}

func (s shape) relative() bool {
	for _, operand := range layouts[s].operands {
		if operand == operandTarget {
			return true
		}
	}
	return false
}

// operation describes an operation; reads and writes are sums of uses.
type operation struct {
	op       int
	mnemonic string
	shape    shape
	reads    int
	writes   int
}

var operations = [...]operation{
	{api.InNop, "nop", shapeBare, 0, 0},
	{api.InMove, "move", shapeAB, useB, useA},
	{api.InSet, "set", shapeWide, 0, useA},
	{api.InLit, "lit", shapeShort, 0, useA},
	{api.InAdd, "add", shapeAB, useA + useB, useA},
	{api.InSub, "sub", shapeAB, useA + useB, useA},
	{api.InMul, "mul", shapeAB, useA + useB, useA},
	{api.InDiv, "div", shapeAB, useA + useB, useA},
	{api.InMod, "mod", shapeAB, useA + useB, useA},
	{api.InAnd, "and", shapeAB, useA + useB, useA},
	{api.InOr, "or", shapeAB, useA + useB, useA},
	{api.InXor, "xor", shapeAB, useA + useB, useA},
	{api.InShl, "shl", shapeAB, useA + useB, useA},
	{api.InShr, "shr", shapeAB, useA + useB, useA},
	{api.InSar, "sar", shapeAB, useA + useB, useA},
	{api.InInc, "inc", shapeShort, useA, useA},
	{api.InLoad1, "load1", shapeLoad, useB, useA},
	{api.InLoad8, "load8", shapeLoad, useB, useA},
	{api.InStore1, "store1", shapeStore, useA + useB, 0},
	{api.InStore8, "store8", shapeStore, useA + useB, 0},
	{api.InBeq, "beq", shapeBranch, useA + useB, 0},
	{api.InBne, "bne", shapeBranch, useA + useB, 0},
	{api.InBlt, "blt", shapeBranch, useA + useB, 0},
	{api.InBge, "bge", shapeBranch, useA + useB, 0},
	{api.InJump, "jump", shapeFar, 0, 0},
	{api.InJumpR, "jumpr", shapeA, useA, 0},
	{api.InCall, "call", shapeFar, useStack, useStack},
	{api.InCallR, "callr", shapeA, useA + useStack, useStack},
	{api.InRet, "ret", shapeBare, useStack, useStack},
	{api.InPush, "push", shapeA, useA + useStack, useStack},
	{api.InPop, "pop", shapeA, useStack, useA + useStack},
	{api.InLea, "lea", shapeLea, 0, useA},
	{api.InSys, "sys", shapeSys, 0, 0},
	{api.InSwap, "swap", shapeSwap, useA + useB, useA},
	{api.InBreak, "break", shapeBare, 0, 0},
}

func byOp(op int) (operation, bool) {
	for i := range operations {
		if operations[i].op == op {
			return operations[i], true
		}
	}
	return operation{}, false
}

func byMnemonic(mnemonic string) (operation, bool) {
	for i := range operations {
		if operations[i].mnemonic == mnemonic {
			return operations[i], true
		}
	}
	return operation{}, false
}

// described returns the operation of a well-formed instruction, otherwise ErrInsn.
func described(x api.Insn) (operation, api.Errno) {
	o, known := byOp(x.Op)
	if !known {
		return operation{}, api.ErrInsn
	}
	registers := layouts[o.shape].registers
	if !isRegister(x.A, registers >= 1) || !isRegister(x.B, registers == 2) || !o.shape.fits(x.Imm) {
		return operation{}, api.ErrInsn
	}
	return o, api.OK
}

func isRegister(number int, present bool) bool {
	return number == 0 || present && 0 < number && number <= 7
}
