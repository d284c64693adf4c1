package insn

import "tapline/api"

// firstByte is the first byte of an encoding less its operation; the other bytes of an encoding are below it.
const firstByte = 128

// wideBytes is the number of bytes of an Imm that can be any int64: 70 bits.
const wideBytes = 10

// Encode returns the encoding of an instruction.
func Encode(x api.Insn) ([]byte, api.Errno) {
	o, e := described(x)
	if e != api.OK {
		return nil, e
	}
	b := []byte{byte(firstByte + x.Op)}
	switch layouts[o.shape].registers {
	case 1:
		b = append(b, byte(x.A))
	case 2:
		b = append(b, byte(8*x.A+x.B))
	}
	rest := x.Imm
	for range layouts[o.shape].immediate {
		b = append(b, byte(rest&127))
		rest >>= 7
	}
	return b, api.OK
}

// Decode returns the instruction with whose encoding b begins, and the length of the encoding.
func Decode(b []byte) (api.Insn, int, api.Errno) {
	if len(b) == 0 {
		return api.Insn{}, 0, api.ErrShort
	}
	o, known := byOp(int(b[0]) - firstByte)
	if !known {
		return api.Insn{}, 0, api.ErrInsn
	}
	n := o.shape.length()
	for i := 1; i < n; i++ {
		if i == len(b) {
			return api.Insn{}, 0, api.ErrShort
		}
		if !o.shape.goesOn(i, b[i]) {
			return api.Insn{}, 0, api.ErrInsn
		}
	}
	a, second := o.shape.registersIn(b)
	return api.Insn{Op: o.op, A: a, B: second, Imm: o.shape.immediateIn(b[:n])}, n, api.OK
}

// goesOn reports whether an encoding can have the byte c at offset i (from 1 on).
func (s shape) goesOn(i int, c byte) bool {
	switch {
	case i == 1 && layouts[s].registers == 1:
		return c < 8
	case i == 1 && layouts[s].registers == 2:
		return c < 64
	case layouts[s].immediate == wideBytes && i == s.length()-1:
		// Seven bits of 70 from bit 63 on: all of them are the sign of an int64.
		return c == 0 || c == 127
	}
	return c < firstByte
}

func (s shape) registersIn(b []byte) (int, int) {
	switch layouts[s].registers {
	case 1:
		return int(b[1]), 0
	case 2:
		return int(b[1] / 8), int(b[1] % 8)
	}
	return 0, 0
}

// immediateIn returns the Imm of an encoding: its last bytes.
func (s shape) immediateIn(b []byte) int64 {
	bytes := layouts[s].immediate
	var v int64
	for i := len(b) - 1; i >= len(b)-bytes; i-- {
		v = v<<7 | int64(b[i])
	}
	if v > layouts[s].greatest {
		v -= 1 << (7 * bytes)
	}
	return v
}

// Sweep returns the instructions whose encodings, one behind the other, are b, and their offsets.
func Sweep(b []byte) ([]api.Insn, []int, api.Errno) {
	if len(b) > api.MaxCode {
		return nil, nil, api.ErrLong
	}
	var list []api.Insn
	var offsets []int
	for at := 0; at < len(b); {
		x, n, e := Decode(b[at:])
		if e != api.OK {
			return nil, nil, e
		}
		list = append(list, x)
		offsets = append(offsets, at)
		at += n
	}
	return list, offsets, api.OK
}
