package bits_test

import (
	"math"
	"math/big"

	"tapline/api"
	"tapline/bits"
)

// What the tests know of the chapter, written with big integers and without package bits.

var (
	i1 = api.Int{Size: 1, Signed: true}
	i2 = api.Int{Size: 2, Signed: true}
	i4 = api.Int{Size: 4, Signed: true}
	i8 = api.Int{Size: 8, Signed: true}
	u1 = api.Int{Size: 1}
	u2 = api.Int{Size: 2}
	u4 = api.Int{Size: 4}
	u8 = api.Int{Size: 8}

	types    = []api.Int{i1, u1, i2, u2, i4, u4, i8, u8}
	promoted = []api.Int{i4, u4, i8, u8} // in the order of the common type
	invalid  = []api.Int{
		{}, {Signed: true}, {Size: 3}, {Size: 3, Signed: true}, {Size: 5}, {Size: 6}, {Size: 7}, {Size: 9}, {Size: 16, Signed: true},
		{Size: -1}, {Size: -4, Signed: true}, {Size: -8}, {Size: 32}, {Size: 64, Signed: true}, {Size: 1 << 32}, {Size: 1<<32 + 4},
		{Size: math.MaxInt}, {Size: math.MinInt, Signed: true}, {Size: math.MinInt + 8},
	}
	ring        = []int{api.BiAdd, api.BiSub, api.BiMul, api.BiAnd, api.BiOr, api.BiXor}
	comparisons = []int{api.BiLt, api.BiLe, api.BiGt, api.BiGe, api.BiEq, api.BiNe}
	noBinary    = []int{0, -1, api.BiNe + 1, 100, math.MaxInt, math.MinInt, math.MinInt + api.BiAdd, 1<<32 + api.BiDiv}
	noUnary     = []int{0, -1, api.UnLog + 1, 100, math.MaxInt, math.MinInt, math.MinInt + api.UnNot, 1<<32 + api.UnNeg}
)

// samples returns numbers around the places where types end, counts wrap around, and signs change.
func samples() []int64 {
	l := []int64{0, 3, 5, 7, 10, 31, 33, 63, 65, 100, 200, -3, -5, -7, -10, -31, -33, -63, -100, 0x123456789abcdef, -0x123456789abcdef, 0x55555555aaaaaaaa}
	for _, n := range []uint{0, 1, 5, 6, 7, 8, 15, 16, 31, 32, 62, 63} {
		p := int64(1) << n
		l = append(l, p, p-1, -p, -p-1, p+1)
	}
	return l
}

// few returns those samples that are enough where all triples of them are tried.
func few() []int64 {
	return []int64{0, 1, -1, 2, -7, 127, 128, 255, 256, -32769, math.MaxInt32, math.MinInt32, 1<<32 + 5, math.MaxInt64, math.MinInt64, math.MinInt64 + 3}
}

// operands returns those samples that are enough where all pairs of them are tried with all types.
func operands() []int64 {
	return append(few(), 3, 5, 31, 32, 33, 63, 64, 65, -31, -33, -64, math.MaxUint32, 1<<63-2)
}

func powerOf2(n int) *big.Int { return new(big.Int).Lsh(big.NewInt(1), uint(n)) }

// number returns the number of v wrapped to t.
func number(t api.Int, v int64) *big.Int {
	n := new(big.Int).Mod(big.NewInt(v), powerOf2(8*t.Size))
	if t.Signed && n.Cmp(powerOf2(8*t.Size-1)) >= 0 {
		n.Sub(n, powerOf2(8*t.Size))
	}
	return n
}

// wrapNumber returns the value of t that has the lowest bits of n.
func wrapNumber(t api.Int, n *big.Int) int64 { return pattern(number(t, pattern(n))) }

// pattern returns the int64 with the 64 bits of a number.
func pattern(n *big.Int) int64 {
	low := new(big.Int).Mod(n, powerOf2(64))
	return int64(low.Uint64())
}

func wantPromoted(t api.Int) api.Int {
	if t.Size <= 2 {
		return i4
	}
	return t
}

func wantCommon(a, b api.Int) api.Int {
	want := i4
	for _, t := range promoted {
		if t == wantPromoted(a) || t == wantPromoted(b) {
			want = t
		}
	}
	return want
}

func wantBinary(op int, ta api.Int, a int64, tb api.Int, b int64) (api.Int, int64, api.Errno) {
	t := wantCommon(ta, tb)
	if op == api.BiShl || op == api.BiShr {
		t = wantPromoted(ta)
		count := new(big.Int).Mod(number(tb, b), big.NewInt(int64(8*t.Size)))
		x, factor := number(t, pattern(number(ta, a))), powerOf2(int(count.Int64()))
		if op == api.BiShl {
			return t, wrapNumber(t, x.Mul(x, factor)), api.OK
		}
		return t, wrapNumber(t, x.Div(x, factor)), api.OK // Div rounds toward minus infinity if the divisor is positive
	}
	x, y := number(t, pattern(number(ta, a))), number(t, pattern(number(tb, b)))
	if holds, ok := relation(op, x.Cmp(y)); ok {
		if holds {
			return i4, 1, api.OK
		}
		return i4, 0, api.OK
	}
	if y.Sign() == 0 && (op == api.BiDiv || op == api.BiMod) {
		return api.Int{}, 0, api.ErrDivide
	}
	return t, wrapNumber(t, arithmetic(op, x, y)), api.OK
}

func arithmetic(op int, x, y *big.Int) *big.Int {
	n := new(big.Int)
	switch op {
	case api.BiAdd:
		return n.Add(x, y)
	case api.BiSub:
		return n.Sub(x, y)
	case api.BiMul:
		return n.Mul(x, y)
	case api.BiDiv:
		return n.Quo(x, y)
	case api.BiMod:
		return n.Sub(x, n.Mul(new(big.Int).Quo(x, y), y))
	case api.BiAnd:
		return n.And(x, y)
	case api.BiOr:
		return n.Or(x, y)
	}
	return n.Xor(x, y)
}

// relation tells whether op is a relation, and whether it holds between numbers that compare like this.
func relation(op, order int) (bool, bool) {
	switch op {
	case api.BiLt:
		return order < 0, true
	case api.BiLe:
		return order <= 0, true
	case api.BiGt:
		return order > 0, true
	case api.BiGe:
		return order >= 0, true
	case api.BiEq:
		return order == 0, true
	case api.BiNe:
		return order != 0, true
	}
	return false, false
}

// The calls that the promises speak of, for arguments for which they have no error.

type failer interface {
	Helper()
	Fatalf(format string, args ...any)
}

func wrap(f failer, t api.Int, v int64) int64 {
	f.Helper()
	w, e := bits.Wrap(t, v)
	if e != api.OK {
		f.Fatalf("Wrap(%v, %d): error %d", t, v, e)
	}
	return w
}

func convert(f failer, from, to api.Int, v int64) int64 {
	f.Helper()
	w, e := bits.Convert(from, to, v)
	if e != api.OK {
		f.Fatalf("Convert(%v, %v, %d): error %d", from, to, v, e)
	}
	return w
}

func binary(f failer, op int, ta api.Int, a int64, tb api.Int, b int64) (api.Int, int64) {
	f.Helper()
	t, v, e := bits.Binary(op, ta, a, tb, b)
	if e != api.OK {
		f.Fatalf("Binary(%d, %v, %d, %v, %d): error %d", op, ta, a, tb, b, e)
	}
	return t, v
}

// apply is binary without the type of the result.
func apply(f failer, op int, ta api.Int, a int64, tb api.Int, b int64) int64 {
	f.Helper()
	_, v := binary(f, op, ta, a, tb, b)
	return v
}

func compare(f failer, t api.Int, a, b int64) int {
	f.Helper()
	order, e := bits.Compare(t, a, b)
	if e != api.OK {
		f.Fatalf("Compare(%v, %d, %d): error %d", t, a, b, e)
	}
	return order
}

func usual(f failer, a, b api.Int) api.Int {
	f.Helper()
	t, e := bits.Usual(a, b)
	if e != api.OK {
		f.Fatalf("Usual(%v, %v): error %d", a, b, e)
	}
	return t
}
