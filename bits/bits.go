// Package bits implements the integer types of C: conversions, arithmetic, comparison, bytes and text. See shared/doc/01-bits.md.
package bits

import "tapline/api"

// plainInt is C's int: the type of a truth value, and the one to which smaller types are promoted.
var plainInt = api.Int{Size: 4, Signed: true}

// Check returns OK for a valid integer type.
func Check(t api.Int) api.Errno {
	if !valid(t) {
		return api.ErrInt
	}
	return api.OK
}

// Wrap returns the value of a type that a 64-bit pattern is truncated to.
func Wrap(t api.Int, v int64) (int64, api.Errno) {
	if !valid(t) {
		return 0, api.ErrInt
	}
	return wrap(t, v), api.OK
}

// Range returns the values of a type with the least and the greatest number.
func Range(t api.Int) (int64, int64, api.Errno) {
	if !valid(t) {
		return 0, 0, api.ErrInt
	}
	least, greatest := limits(t)
	return least, greatest, api.OK
}

// Promote returns the type to which an operand of a type is promoted.
func Promote(t api.Int) (api.Int, api.Errno) {
	if !valid(t) {
		return api.Int{}, api.ErrInt
	}
	return promoted(t), api.OK
}

// Usual returns the common type of two operands.
func Usual(a, b api.Int) (api.Int, api.Errno) {
	if !valid(a) || !valid(b) {
		return api.Int{}, api.ErrInt
	}
	return common(a, b), api.OK
}

// Convert returns a value of one type converted to another one.
func Convert(from, to api.Int, v int64) (int64, api.Errno) {
	if !valid(from) || !valid(to) {
		return 0, api.ErrInt
	}
	return wrap(to, wrap(from, v)), api.OK
}

func valid(t api.Int) bool {
	return t.Size == 1 || t.Size == 2 || t.Size == 4 || t.Size == 8
}

func width(t api.Int) int { return 8 * t.Size }

// narrow is the set of Go's own types that have fewer bits than the int64 that holds their values.
type narrow interface {
	int8 | int16 | int32 | uint8 | uint16 | uint32
}

// through returns v converted to T and back: Go's conversions between integer types wrap as C's do.
func through[T narrow](v int64) int64 { return int64(T(v)) }

func wrap(t api.Int, v int64) int64 {
	switch t {
	case api.Int{Size: 1, Signed: true}:
		return through[int8](v)
	case api.Int{Size: 2, Signed: true}:
		return through[int16](v)
	case api.Int{Size: 4, Signed: true}:
		return through[int32](v)
	case api.Int{Size: 1}:
		return through[uint8](v)
	case api.Int{Size: 2}:
		return through[uint16](v)
	case api.Int{Size: 4}:
		return through[uint32](v)
	}
	return v
}

func limits(t api.Int) (least, greatest int64) {
	if !t.Signed {
		return 0, wrap(t, -1)
	}
	least = -1 << (width(t) - 1)
	return least, ^least
}

func promoted(t api.Int) api.Int {
	if t.Size < plainInt.Size {
		return plainInt
	}
	return t
}

func common(a, b api.Int) api.Int {
	a, b = promoted(a), promoted(b)
	if rank(a) < rank(b) {
		return b
	}
	return a
}

// rank orders the promoted types: of two types the greater one can be the common type of both.
func rank(t api.Int) int {
	if t.Signed {
		return t.Size
	}
	return t.Size + 1
}
