package cpu

import "tapline/api"

// Alu returns the result of an arithmetic operation, and false for a division by zero.
func Alu(op int, a, b int64) (int64, bool, api.Errno) {
	if op < api.InAdd || op > api.InSar {
		return 0, false, api.ErrArg
	}
	if b == 0 && (op == api.InDiv || op == api.InMod) {
		return 0, false, api.OK
	}
	return calculations()[op](a, b), true, api.OK
}

// calculations returns the functions of the operations from InAdd to InSar; divisors are not 0.
func calculations() []func(a, b int64) int64 {
	return []func(a, b int64) int64{
		api.InAdd: func(a, b int64) int64 { return a + b },
		api.InSub: func(a, b int64) int64 { return a - b },
		api.InMul: func(a, b int64) int64 { return a * b },
		api.InDiv: func(a, b int64) int64 { return a / b },
		api.InMod: func(a, b int64) int64 { return a % b },
		api.InAnd: func(a, b int64) int64 { return a & b },
		api.InOr:  func(a, b int64) int64 { return a | b },
		api.InXor: func(a, b int64) int64 { return a ^ b },
		api.InShl: func(a, b int64) int64 { return a << distance(b) },
		api.InShr: func(a, b int64) int64 { return int64(uint64(a) >> distance(b)) },
		api.InSar: func(a, b int64) int64 { return a >> distance(b) },
	}
}

// distance returns b modulo 64, which is not negative even if b is.
func distance(b int64) uint64 {
	return uint64(b) % 64
}
