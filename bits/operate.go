package bits

import (
	"cmp"

	"tapline/api"
)

// Unary returns the type and the value of a unary operation.
func Unary(op int, t api.Int, v int64) (api.Int, int64, api.Errno) {
	if !valid(t) {
		return api.Int{}, 0, api.ErrInt
	}
	compute, ok := unaryOperations()[op]
	if !ok {
		return api.Int{}, 0, api.ErrOper
	}
	result := promoted(t)
	if op == api.UnLog {
		result = plainInt
	}
	return result, wrap(result, compute(wrap(t, v))), api.OK
}

// Binary returns the type and the value of a binary operation.
func Binary(op int, ta api.Int, a int64, tb api.Int, b int64) (api.Int, int64, api.Errno) {
	if !valid(ta) || !valid(tb) {
		return api.Int{}, 0, api.ErrInt
	}
	a, b = wrap(ta, a), wrap(tb, b)
	if compute, ok := arithmetic()[op]; ok {
		t := common(ta, tb)
		x, y := wrap(t, a), wrap(t, b)
		if y == 0 && (op == api.BiDiv || op == api.BiMod) {
			return api.Int{}, 0, api.ErrDivide
		}
		return t, wrap(t, compute(t, x, y)), api.OK
	}
	if shift, ok := shifts()[op]; ok {
		t := promoted(ta)
		return t, wrap(t, shift(t, wrap(t, a), count(t, b))), api.OK
	}
	if holds, ok := relations()[op]; ok {
		t := common(ta, tb)
		return plainInt, truth(holds(order(t, wrap(t, a), wrap(t, b)))), api.OK
	}
	return api.Int{}, 0, api.ErrOper
}

// Compare returns -1, 0 or 1 as the first value is less than, equal to or greater than the second one.
func Compare(t api.Int, a, b int64) (int, api.Errno) {
	if !valid(t) {
		return 0, api.ErrInt
	}
	return order(t, wrap(t, a), wrap(t, b)), api.OK
}

// unaryOperations returns what each unary operation makes of a value, before it is wrapped to the type of the result.
func unaryOperations() map[int]func(v int64) int64 {
	return map[int]func(v int64) int64{
		api.UnNeg: func(v int64) int64 { return -v },
		api.UnNot: func(v int64) int64 { return ^v },
		api.UnLog: func(v int64) int64 { return truth(v == 0) },
	}
}

// arithmetic returns what each arithmetic operation makes of two values of a type, before it is wrapped to this type.
func arithmetic() map[int]func(t api.Int, x, y int64) int64 {
	return map[int]func(t api.Int, x, y int64) int64{
		api.BiAdd: func(t api.Int, x, y int64) int64 { return x + y },
		api.BiSub: func(t api.Int, x, y int64) int64 { return x - y },
		api.BiMul: func(t api.Int, x, y int64) int64 { return x * y },
		api.BiDiv: quotient,
		api.BiMod: remainder,
		api.BiAnd: func(t api.Int, x, y int64) int64 { return x & y },
		api.BiOr:  func(t api.Int, x, y int64) int64 { return x | y },
		api.BiXor: func(t api.Int, x, y int64) int64 { return x ^ y },
	}
}

// shifts returns what each shift makes of a value of a type and a count below its width, before it is wrapped to this type.
func shifts() map[int]func(t api.Int, x int64, n int) int64 {
	return map[int]func(t api.Int, x int64, n int) int64{
		api.BiShl: func(t api.Int, x int64, n int) int64 { return x << n },
		api.BiShr: shiftRight,
	}
}

// relations returns for which orders of its operands, as Compare has them, each relation holds.
func relations() map[int]func(order int) bool {
	return map[int]func(order int) bool{
		api.BiLt: func(order int) bool { return order < 0 },
		api.BiLe: func(order int) bool { return order <= 0 },
		api.BiGt: func(order int) bool { return order > 0 },
		api.BiGe: func(order int) bool { return order >= 0 },
		api.BiEq: func(order int) bool { return order == 0 },
		api.BiNe: func(order int) bool { return order != 0 },
	}
}

func truth(holds bool) int64 {
	if holds {
		return 1
	}
	return 0
}

// order compares two values of t by their numbers. Here as in the functions below, the number of a value of an unsigned type is the value as a uint64.
func order(t api.Int, x, y int64) int {
	if t.Signed {
		return cmp.Compare(x, y)
	}
	return cmp.Compare(uint64(x), uint64(y))
}

func quotient(t api.Int, x, y int64) int64 {
	if t.Signed {
		return x / y
	}
	return int64(uint64(x) / uint64(y))
}

func remainder(t api.Int, x, y int64) int64 {
	if t.Signed {
		return x % y
	}
	return int64(uint64(x) % uint64(y))
}

func shiftRight(t api.Int, x int64, n int) int64 {
	if t.Signed {
		return x >> n
	}
	return int64(uint64(x) >> n)
}

// count returns n modulo the width of t. The width is a power of 2, so that the lowest bits of n are this number even if n is negative.
func count(t api.Int, n int64) int { return int(n & int64(width(t)-1)) }
