package bits_test

import (
	"math"
	"strings"
	"testing"

	"tapline/api"
	"tapline/bits"
)

// P1.1, P1 and P2 for arguments that are not valid: the error named first, and zero values beside it.

func TestP1_1InvalidType(t *testing.T) {
	for _, x := range invalid {
		if v, e := bits.Wrap(x, 5); v != 0 || e != api.ErrInt {
			t.Errorf("Wrap(%v, 5) = %d, %d; want ErrInt", x, v, e)
		}
		if least, greatest, e := bits.Range(x); least != 0 || greatest != 0 || e != api.ErrInt {
			t.Errorf("Range(%v) = %d, %d, %d; want ErrInt", x, least, greatest, e)
		}
		if w, e := bits.Promote(x); w != (api.Int{}) || e != api.ErrInt {
			t.Errorf("Promote(%v) = %v, %d; want ErrInt", x, w, e)
		}
		if order, e := bits.Compare(x, 2, 1); order != 0 || e != api.ErrInt {
			t.Errorf("Compare(%v, 2, 1) = %d, %d; want ErrInt", x, order, e)
		}
		if b, e := bits.Bytes(x, 5); len(b) != 0 || e != api.ErrInt {
			t.Errorf("Bytes(%v, 5) = %v, %d; want ErrInt", x, b, e)
		}
		if s, e := bits.Text(x, 5); s != "" || e != api.ErrInt {
			t.Errorf("Text(%v, 5) = %q, %d; want ErrInt", x, s, e)
		}
	}
}

func TestP1_1InvalidTypeOfTwo(t *testing.T) {
	for _, x := range invalid {
		for _, valid := range append(types, x) {
			for _, y := range [][2]api.Int{{x, valid}, {valid, x}} {
				if w, e := bits.Usual(y[0], y[1]); w != (api.Int{}) || e != api.ErrInt {
					t.Errorf("Usual(%v, %v) = %v, %d; want ErrInt", y[0], y[1], w, e)
				}
				if v, e := bits.Convert(y[0], y[1], 5); v != 0 || e != api.ErrInt {
					t.Errorf("Convert(%v, %v, 5) = %d, %d; want ErrInt", y[0], y[1], v, e)
				}
				for op := api.BiAdd; op <= api.BiNe; op++ {
					if w, v, e := bits.Binary(op, y[0], 5, y[1], 3); w != (api.Int{}) || v != 0 || e != api.ErrInt {
						t.Errorf("Binary(%d, %v, 5, %v, 3) = %v, %d, %d; want ErrInt", op, y[0], y[1], w, v, e)
					}
				}
			}
		}
	}
}

// TestP1_1TypeBeforeOtherErrors checks that an invalid type is told before anything else that is wrong.
func TestP1_1TypeBeforeOtherErrors(t *testing.T) {
	for _, x := range invalid {
		for _, b := range [][]byte{nil, {1}, {1, 2, 3}, make([]byte, 4), make([]byte, 8), make([]byte, 9)} {
			if v, e := bits.FromBytes(x, b); v != 0 || e != api.ErrInt {
				t.Errorf("FromBytes(%v, %v) = %d, %d; want ErrInt", x, b, v, e)
			}
		}
		for _, s := range []string{"", "1", "-0", "0x", "007", "99999999999999999999"} {
			if v, e := bits.Parse(x, s); v != 0 || e != api.ErrInt {
				t.Errorf("Parse(%v, %q) = %d, %d; want ErrInt", x, s, v, e)
			}
		}
		for _, op := range append(noUnary, api.UnNeg, api.UnNot, api.UnLog) {
			if w, v, e := bits.Unary(op, x, 5); w != (api.Int{}) || v != 0 || e != api.ErrInt {
				t.Errorf("Unary(%d, %v, 5) = %v, %d, %d; want ErrInt", op, x, w, v, e)
			}
		}
		for _, op := range append(noBinary, api.BiDiv, api.BiMod) {
			for _, y := range [][2]api.Int{{x, i4}, {i4, x}, {x, x}} {
				if w, v, e := bits.Binary(op, y[0], 5, y[1], 0); w != (api.Int{}) || v != 0 || e != api.ErrInt {
					t.Errorf("Binary(%d, %v, 5, %v, 0) = %v, %d, %d; want ErrInt", op, y[0], y[1], w, v, e)
				}
			}
		}
	}
}

func TestP1_1NoSuchOperation(t *testing.T) {
	for _, x := range types {
		for _, op := range noUnary {
			if w, v, e := bits.Unary(op, x, 5); w != (api.Int{}) || v != 0 || e != api.ErrOper {
				t.Errorf("Unary(%d, %v, 5) = %v, %d, %d; want ErrOper", op, x, w, v, e)
			}
		}
		for _, y := range types {
			for _, op := range noBinary {
				for _, b := range []int64{3, 0} {
					if w, v, e := bits.Binary(op, x, 5, y, b); w != (api.Int{}) || v != 0 || e != api.ErrOper {
						t.Errorf("Binary(%d, %v, 5, %v, %d) = %v, %d, %d; want ErrOper", op, x, y, b, w, v, e)
					}
				}
			}
		}
	}
}

// TestP1_1DivisorOf0 includes the operands that are 0 only after they are wrapped to their type.
func TestP1_1DivisorOf0(t *testing.T) {
	zeros := map[api.Int][]int64{
		i1: {0, 256, -256, 1 << 40}, u1: {0, 256, -256, 1 << 40}, i2: {0, 65536, -65536}, u2: {0, 65536, -65536},
		i4: {0, 1 << 32, -1 << 32}, u4: {0, 1 << 32, math.MinInt64}, i8: {0}, u8: {0},
	}
	for _, op := range []int{api.BiDiv, api.BiMod} {
		for _, x := range types {
			for y, l := range zeros {
				for _, b := range l {
					for _, a := range few() {
						if w, v, e := bits.Binary(op, x, a, y, b); w != (api.Int{}) || v != 0 || e != api.ErrDivide {
							t.Errorf("Binary(%d, %v, %d, %v, %d) = %v, %d, %d; want ErrDivide", op, x, a, y, b, w, v, e)
						}
					}
				}
			}
		}
	}
	if _, v, e := bits.Binary(api.BiDiv, i4, 6, i8, 1<<32); v != 0 || e != api.OK {
		t.Errorf("6 / 2^32 of type i8 = %d, %d; want 0: the divisor is not 0", v, e)
	}
}

// TestP1ArbitraryArguments calls every function with every mixture of odd arguments: none may panic, and those with an error have no other result.
func TestP1ArbitraryArguments(t *testing.T) {
	all := append(append([]api.Int{}, types...), invalid...)
	values := few()
	for _, x := range all {
		for _, y := range all {
			for _, op := range append(append([]int{}, noBinary...), api.BiDiv, api.BiMod, api.BiShl, api.BiShr, api.BiNe) {
				for _, a := range values {
					for _, b := range []int64{0, -1, 64, math.MinInt64, math.MaxInt64} {
						if w, v, e := bits.Binary(op, x, a, y, b); e != api.OK && (w != api.Int{} || v != 0) {
							t.Fatalf("Binary(%d, %v, %d, %v, %d) = %v, %d, %d", op, x, a, y, b, w, v, e)
						}
					}
				}
			}
		}
	}
	for _, x := range all {
		for n := range 40 {
			bits.FromBytes(x, make([]byte, n))
			bits.Parse(x, strings.Repeat("9", n))
			bits.Parse(x, "0x"+strings.Repeat("f", n))
			bits.Parse(x, "-"+strings.Repeat("\xff", n))
		}
		for _, v := range values {
			bits.Text(x, v)
			bits.Bytes(x, v)
		}
	}
}

// TestP1NoState checks that a call has the same result whatever was called before.
func TestP1NoState(t *testing.T) {
	for range 3 {
		if w, v, e := bits.Binary(api.BiAdd, u1, 255, u1, 1); w != i4 || v != 256 || e != api.OK {
			t.Fatalf("255 + 1 = %v, %d, %d", w, v, e)
		}
		if s, e := bits.Text(i4, -120); s != "-120" || e != api.OK {
			t.Fatalf("Text(i4, -120) = %q, %d", s, e)
		}
		bits.Binary(api.BiDiv, i4, 1, i4, 0)
		bits.Parse(i4, "x")
		bits.Unary(9, u8, 1)
	}
}
