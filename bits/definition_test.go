package bits_test

import (
	"bytes"
	"math"
	"math/big"
	"strings"
	"testing"

	"tapline/api"
	"tapline/bits"
)

// P1.1: all functions behave as the chapter describes them.

func TestP1_1Check(t *testing.T) {
	for _, x := range types {
		if e := bits.Check(x); e != api.OK {
			t.Errorf("Check(%v) = %d; want OK", x, e)
		}
	}
	for _, x := range invalid {
		if e := bits.Check(x); e != api.ErrInt {
			t.Errorf("Check(%v) = %d; want ErrInt", x, e)
		}
	}
}

func TestP1_1Wrap(t *testing.T) {
	for _, x := range types {
		for _, v := range samples() {
			if got, e := bits.Wrap(x, v); got != pattern(number(x, v)) || e != api.OK {
				t.Errorf("Wrap(%v, %d) = %d, %d; want %d", x, v, got, e, pattern(number(x, v)))
			}
		}
	}
	for _, x := range []struct {
		t       api.Int
		v, want int64
	}{
		{i1, 200, -56}, {u1, -1, 255}, {u8, -1, -1}, {i8, math.MinInt64, math.MinInt64},
		{i1, 127, 127}, {i1, 128, -128}, {i1, -129, 127}, {u1, 256, 0}, {i2, 32768, -32768}, {u2, -1, 65535}, {u2, 65536, 0},
		{i4, math.MaxInt32 + 1, math.MinInt32}, {u4, -1, math.MaxUint32}, {u4, 1 << 32, 0}, {u8, math.MinInt64, math.MinInt64},
	} {
		if got, e := bits.Wrap(x.t, x.v); got != x.want || e != api.OK {
			t.Errorf("Wrap(%v, %d) = %d, %d; want %d", x.t, x.v, got, e, x.want)
		}
	}
}

func TestP1_1Range(t *testing.T) {
	for _, x := range []struct {
		t               api.Int
		least, greatest int64
	}{
		{i1, -128, 127}, {u1, 0, 255}, {i2, -32768, 32767}, {u2, 0, 65535},
		{i4, math.MinInt32, math.MaxInt32}, {u4, 0, math.MaxUint32}, {i8, math.MinInt64, math.MaxInt64}, {u8, 0, -1},
	} {
		if least, greatest, e := bits.Range(x.t); least != x.least || greatest != x.greatest || e != api.OK {
			t.Errorf("Range(%v) = %d, %d, %d; want %d, %d", x.t, least, greatest, e, x.least, x.greatest)
		}
	}
}

func TestP1_1PromoteAndUsual(t *testing.T) {
	for _, x := range types {
		if got, e := bits.Promote(x); got != wantPromoted(x) || e != api.OK {
			t.Errorf("Promote(%v) = %v, %d; want %v", x, got, e, wantPromoted(x))
		}
		for _, y := range types {
			if got, e := bits.Usual(x, y); got != wantCommon(x, y) || e != api.OK {
				t.Errorf("Usual(%v, %v) = %v, %d; want %v", x, y, got, e, wantCommon(x, y))
			}
		}
	}
	for _, x := range []struct{ a, b, want api.Int }{
		{u1, u1, i4}, {i4, u4, u4}, {u4, i8, i8}, {i8, u8, u8}, {i1, u2, i4}, {u2, u4, u4}, {u4, u8, u8}, {i1, i8, i8}, {u8, i4, u8},
	} {
		if got, e := bits.Usual(x.a, x.b); got != x.want || e != api.OK {
			t.Errorf("Usual(%v, %v) = %v, %d; want %v", x.a, x.b, got, e, x.want)
		}
	}
}

func TestP1_1Convert(t *testing.T) {
	for _, from := range types {
		for _, to := range types {
			for _, v := range samples() {
				want := pattern(number(to, pattern(number(from, v))))
				if got, e := bits.Convert(from, to, v); got != want || e != api.OK {
					t.Errorf("Convert(%v, %v, %d) = %d, %d; want %d", from, to, v, got, e, want)
				}
			}
		}
	}
	if got, e := bits.Convert(u1, i8, -1); got != 255 || e != api.OK {
		t.Errorf("Convert(u1, i8, -1) = %d, %d; want 255: the operand is wrapped to its type first", got, e)
	}
	if got, e := bits.Convert(i1, u8, 255); got != -1 || e != api.OK {
		t.Errorf("Convert(i1, u8, 255) = %d, %d; want -1: the sign is extended", got, e)
	}
}

func TestP1_1Unary(t *testing.T) {
	for _, x := range types {
		for _, v := range samples() {
			operand, result := number(x, v), wantPromoted(x)
			isZero := int64(0)
			if operand.Sign() == 0 {
				isZero = 1
			}
			for _, y := range []struct {
				op   int
				t    api.Int
				want int64
			}{
				{api.UnNeg, result, wrapNumber(result, new(big.Int).Neg(operand))},
				{api.UnNot, result, wrapNumber(result, new(big.Int).Not(operand))},
				{api.UnLog, i4, isZero},
			} {
				if w, got, e := bits.Unary(y.op, x, v); w != y.t || got != y.want || e != api.OK {
					t.Errorf("Unary(%d, %v, %d) = %v, %d, %d; want %v, %d", y.op, x, v, w, got, e, y.t, y.want)
				}
			}
		}
	}
}

func TestP1_1UnaryExamples(t *testing.T) {
	for _, x := range []struct {
		op   int
		t    api.Int
		v    int64
		want api.Int
		n    int64
	}{
		{api.UnNot, u1, 0, i4, -1}, {api.UnNot, u4, 0, u4, math.MaxUint32}, {api.UnNot, u8, 0, u8, -1},
		{api.UnNeg, u1, 255, i4, -255}, {api.UnNeg, u4, 1, u4, math.MaxUint32}, {api.UnNeg, i1, 128, i4, 128},
		{api.UnNeg, i4, math.MinInt32, i4, math.MinInt32}, {api.UnNeg, i8, math.MinInt64, i8, math.MinInt64},
		{api.UnLog, u8, 0, i4, 1}, {api.UnLog, u8, -1, i4, 0}, {api.UnLog, u1, 256, i4, 1}, {api.UnLog, i8, 1 << 32, i4, 0},
	} {
		if w, got, e := bits.Unary(x.op, x.t, x.v); w != x.want || got != x.n || e != api.OK {
			t.Errorf("Unary(%d, %v, %d) = %v, %d, %d; want %v, %d", x.op, x.t, x.v, w, got, e, x.want, x.n)
		}
	}
}

func TestP1_1Binary(t *testing.T) {
	for op := api.BiAdd; op <= api.BiNe; op++ {
		for _, ta := range types {
			for _, tb := range types {
				for _, a := range operands() {
					for _, b := range operands() {
						w, v, e := wantBinary(op, ta, a, tb, b)
						if gw, gv, ge := bits.Binary(op, ta, a, tb, b); gw != w || gv != v || ge != e {
							t.Fatalf("Binary(%d, %v, %d, %v, %d) = %v, %d, %d; want %v, %d, %d", op, ta, a, tb, b, gw, gv, ge, w, v, e)
						}
					}
				}
			}
		}
	}
}

func TestP1_1BinaryExamples(t *testing.T) {
	for _, x := range []struct {
		op   int
		ta   api.Int
		a    int64
		tb   api.Int
		b    int64
		want api.Int
		n    int64
	}{
		{api.BiLt, i4, -1, u4, 1, i4, 0}, {api.BiLt, i8, -1, u4, 1, i4, 1}, {api.BiLt, i8, -1, u8, 1, i4, 0}, {api.BiLt, i1, -1, u2, 1, i4, 1},
		{api.BiAdd, u1, 255, u1, 1, i4, 256}, {api.BiAdd, i4, math.MaxInt32, i4, 1, i4, math.MinInt32}, {api.BiSub, u4, 0, i1, 1, u4, math.MaxUint32},
		{api.BiAdd, i8, math.MaxInt64, i8, 1, i8, math.MinInt64}, {api.BiMul, u8, -1, u8, -1, u8, 1}, {api.BiMul, u4, math.MaxUint32, u4, 2, u4, math.MaxUint32 - 1},
		{api.BiDiv, i4, -7, i4, 2, i4, -3}, {api.BiMod, i4, -7, i4, 2, i4, -1}, {api.BiDiv, i4, 7, i4, -2, i4, -3}, {api.BiMod, i4, 7, i4, -2, i4, 1},
		{api.BiDiv, i4, math.MinInt32, i4, -1, i4, math.MinInt32}, {api.BiMod, i4, math.MinInt32, i4, -1, i4, 0},
		{api.BiDiv, i8, math.MinInt64, i8, -1, i8, math.MinInt64}, {api.BiMod, i8, math.MinInt64, i8, -1, i8, 0},
		{api.BiDiv, i1, -128, i1, -1, i4, 128}, {api.BiDiv, u8, -1, u8, 2, u8, math.MaxInt64}, {api.BiMod, u8, -1, u8, 10, u8, 5},
		{api.BiAnd, i4, -1, u8, 255, u8, 255}, {api.BiOr, i1, -1, u4, 0, u4, math.MaxUint32}, {api.BiXor, i4, -1, i8, 1, i8, -2},
		{api.BiShl, i4, 1, i4, 33, i4, 2}, {api.BiShr, i4, -5, i4, 1, i4, -3}, {api.BiShl, i8, 1, i4, 33, i8, 1 << 33}, {api.BiShl, i4, 1, i4, 31, i4, math.MinInt32},
		{api.BiShl, i4, 1, i4, -31, i4, 2}, {api.BiShl, i4, 1, i8, math.MinInt64 + 3, i4, 8}, {api.BiShr, u8, -1, u8, -1, u8, 1}, {api.BiShr, u4, -1, i4, 31, u4, 1},
		{api.BiShl, u1, 255, u8, 8, i4, 65280}, {api.BiShr, i8, math.MinInt64, i4, 63, i8, -1}, {api.BiShl, u1, 1, i1, 256, i4, 1}, {api.BiShr, i4, 6, i1, 129, i4, 3},
		{api.BiEq, i4, -1, u4, math.MaxUint32, i4, 1}, {api.BiNe, i4, -1, i8, math.MaxUint32, i4, 1}, {api.BiGe, u8, math.MinInt64, u8, math.MaxInt64, i4, 1},
	} {
		if w, got, e := bits.Binary(x.op, x.ta, x.a, x.tb, x.b); w != x.want || got != x.n || e != api.OK {
			t.Errorf("Binary(%d, %v, %d, %v, %d) = %v, %d, %d; want %v, %d", x.op, x.ta, x.a, x.tb, x.b, w, got, e, x.want, x.n)
		}
	}
}

func TestP1_1Compare(t *testing.T) {
	for _, x := range types {
		for _, a := range samples() {
			for _, b := range samples() {
				want := number(x, a).Cmp(number(x, b))
				if got, e := bits.Compare(x, a, b); got != want || e != api.OK {
					t.Fatalf("Compare(%v, %d, %d) = %d, %d; want %d", x, a, b, got, e, want)
				}
			}
		}
	}
}

func TestP1_1Bytes(t *testing.T) {
	for _, x := range types {
		for _, v := range samples() {
			want := make([]byte, 8)
			new(big.Int).Mod(big.NewInt(v), powerOf2(8*x.Size)).FillBytes(want)
			for i := range 4 {
				want[i], want[7-i] = want[7-i], want[i]
			}
			got, e := bits.Bytes(x, v)
			if !bytes.Equal(got, want[:x.Size]) || e != api.OK {
				t.Errorf("Bytes(%v, %d) = %v, %d; want %v", x, v, got, e, want[:x.Size])
			}
			if n, e := bits.FromBytes(x, want[:x.Size]); n != pattern(number(x, v)) || e != api.OK {
				t.Errorf("FromBytes(%v, %v) = %d, %d; want %d", x, want[:x.Size], n, e, pattern(number(x, v)))
			}
		}
	}
	if b, e := bits.Bytes(i4, 0x104030201); !bytes.Equal(b, []byte{1, 2, 3, 4}) || e != api.OK {
		t.Errorf("Bytes(i4, 0x104030201) = %v, %d", b, e)
	}
	if v, e := bits.FromBytes(i2, []byte{0, 128}); v != -32768 || e != api.OK {
		t.Errorf("FromBytes(i2, 0 128) = %d, %d", v, e)
	}
	if v, e := bits.FromBytes(u2, []byte{0, 128}); v != 32768 || e != api.OK {
		t.Errorf("FromBytes(u2, 0 128) = %d, %d", v, e)
	}
}

func TestP1_1BytesOfAnotherLength(t *testing.T) {
	for _, x := range types {
		for n := range 20 {
			v, e := bits.FromBytes(x, bytes.Repeat([]byte{1}, n))
			if n != x.Size && (v != 0 || e != api.ErrArg) {
				t.Errorf("FromBytes(%v, %d bytes) = %d, %d; want ErrArg", x, n, v, e)
			}
			if n == x.Size && e != api.OK {
				t.Errorf("FromBytes(%v, %d bytes): error %d", x, n, e)
			}
		}
		if v, e := bits.FromBytes(x, nil); v != 0 || e != api.ErrArg {
			t.Errorf("FromBytes(%v, nil) = %d, %d; want ErrArg", x, v, e)
		}
	}
}

func TestP1_1BytesAreNewMemory(t *testing.T) {
	a, _ := bits.Bytes(u4, 0x01020304)
	b, _ := bits.Bytes(u4, 0x01020304)
	a[0] = 99
	if b[0] != 4 {
		t.Errorf("two results share memory: %v", b)
	}
	given := []byte{1, 2, 3, 4}
	bits.FromBytes(u4, given)
	if !bytes.Equal(given, []byte{1, 2, 3, 4}) {
		t.Errorf("FromBytes changed its argument: %v", given)
	}
}

func TestP1_1Text(t *testing.T) {
	for _, x := range types {
		for _, v := range samples() {
			if got, e := bits.Text(x, v); got != number(x, v).String() || e != api.OK {
				t.Errorf("Text(%v, %d) = %q, %d; want %q", x, v, got, e, number(x, v))
			}
		}
	}
	for _, x := range []struct {
		t    api.Int
		v    int64
		want string
	}{
		{u8, -1, "18446744073709551615"}, {i8, math.MinInt64, "-9223372036854775808"}, {u8, math.MinInt64, "9223372036854775808"},
		{i4, 0, "0"}, {u1, 256, "0"}, {i1, 200, "-56"}, {i4, 10, "10"}, {i8, -100, "-100"}, {u2, -1, "65535"},
	} {
		if got, e := bits.Text(x.t, x.v); got != x.want || e != api.OK {
			t.Errorf("Text(%v, %d) = %q, %d; want %q", x.t, x.v, got, e, x.want)
		}
	}
}

func TestP1_1Parse(t *testing.T) {
	for _, x := range []struct {
		t    api.Int
		s    string
		want int64
	}{
		{u8, "0xffffffffffffffff", -1}, {u8, "0xFFFFffffFFFFffff", -1}, {u8, "0x8000000000000000", math.MinInt64}, {u8, "18446744073709551615", -1},
		{i8, "0x7fffffffffffffff", math.MaxInt64}, {i8, "-9223372036854775808", math.MinInt64}, {i8, "9223372036854775807", math.MaxInt64},
		{i1, "127", 127}, {i1, "-128", -128}, {i1, "0x7f", 127}, {u1, "255", 255}, {u1, "0xff", 255}, {u1, "0xFf", 255}, {i4, "0", 0}, {u4, "0", 0},
		{u1, "0x0", 0}, {u1, "0x00000000000000aB", 171}, {u1, "0x0000000000000000", 0}, {i2, "0x00A", 10}, {i2, "-1", -1}, {u2, "65535", 65535},
		{u8, "0x0123456789abcdef", 0x0123456789abcdef}, {u8, "0x0123456789ABCDEF", 0x0123456789abcdef}, {i4, "1234567890", 1234567890},
	} {
		if got, e := bits.Parse(x.t, x.s); got != x.want || e != api.OK {
			t.Errorf("Parse(%v, %q) = %d, %d; want %d", x.t, x.s, got, e, x.want)
		}
	}
}

func TestP1_1ParseOfNumbersOutsideOfTheType(t *testing.T) {
	for _, x := range types {
		least, greatest := number(x, 0), powerOf2(8*x.Size)
		if x.Signed {
			greatest = powerOf2(8*x.Size - 1)
			least = new(big.Int).Neg(greatest)
		}
		below := new(big.Int).Sub(least, big.NewInt(1))
		far := new(big.Int).Neg(powerOf2(64))
		for _, s := range []string{
			greatest.String(), below.String(), "0x" + greatest.Text(16), far.String(), powerOf2(64).String(), powerOf2(80).String(), far.Mul(far, far).String(),
			new(big.Int).Add(powerOf2(64), big.NewInt(1)).String(), new(big.Int).Neg(powerOf2(63)).String() + "0",
		} {
			if v, e := bits.Parse(x, s); v != 0 || e != api.ErrText {
				t.Errorf("Parse(%v, %q) = %d, %d; want ErrText", x, s, v, e)
			}
		}
	}
	for _, x := range []api.Int{i1, i2, i4, i8} {
		if v, e := bits.Parse(x, "0xffffffffffffffff"); v != 0 || e != api.ErrText {
			t.Errorf("Parse(%v, 0xffffffffffffffff) = %d, %d; want ErrText", x, v, e)
		}
	}
}

func TestP1_1ParseOfOtherForms(t *testing.T) {
	forms := []string{
		"", "-", "-0", "+0", "+1", "--1", "-+1", "007", "00", "01", "-01", "-00", " 1", "1 ", "1\n", "\t1", "1 2", "1_0", "0_1", "1.0", "1e3", "1,0", "1-", "1-2", "- 1",
		"0x", "0X1", "0X", "x1", "0xg", "0xG", "0x1g", "0x 1", "0x1 ", "0x-1", "0x+1", "-0x1", "-0x0", "+0x1", "00x1", "0x0x1", "0x_1", "0x1_0", "0x1.0", "0x1p0", "0xx",
		"0x00000000000000000", "0x00000000000000001", "0x10000000000000000", "0x" + strings.Repeat("0", 100), "0b1", "0o7", "0b", "1u", "1L", "a", "f", "ff", "/", ":", "`", "0x/", "0x:", "0x@", "0x`",
		"\x00", "1\x00", "0x1\x00", "\xff", "１", "١", "0x１", "−1", "1é", "null", "NaN", "inf", "true", strings.Repeat("1", 100000), strings.Repeat("0", 100000), "-" + strings.Repeat("9", 100000), strings.Repeat("-", 1000),
	}
	for _, x := range types {
		for _, s := range forms {
			if v, e := bits.Parse(x, s); v != 0 || e != api.ErrText {
				t.Errorf("Parse(%v, %.30q) = %d, %d; want ErrText", x, s, v, e)
			}
		}
	}
	for _, x := range []struct {
		t api.Int
		s string
	}{{i1, "128"}, {i1, "-129"}, {i1, "0x80"}, {u1, "256"}, {u1, "-1"}, {u8, "-1"}, {i8, "9223372036854775808"}, {u8, "18446744073709551616"}, {u4, "4294967296"}, {i4, "-2147483649"}} {
		if v, e := bits.Parse(x.t, x.s); v != 0 || e != api.ErrText {
			t.Errorf("Parse(%v, %q) = %d, %d; want ErrText", x.t, x.s, v, e)
		}
	}
}

// TestP1_1ParseOfShortStrings tries all strings of up to 4 bytes of an alphabet.
func TestP1_1ParseOfShortStrings(t *testing.T) {
	const alphabet = "019-xXaF g"
	level := []string{""}
	for range 5 {
		var longer []string
		for _, s := range level {
			for _, x := range []api.Int{i1, u2} {
				want, ok := wantParsed(x, s)
				got, e := bits.Parse(x, s)
				if ok && (got != want || e != api.OK) || !ok && (got != 0 || e != api.ErrText) {
					t.Errorf("Parse(%v, %q) = %d, %d; want %d, %v", x, s, got, e, want, ok)
				}
			}
			for i := range len(alphabet) {
				longer = append(longer, s+alphabet[i:i+1])
			}
		}
		level = longer
	}
}

func wantParsed(t api.Int, s string) (int64, bool) {
	digits, base := s, 10
	if hex, ok := strings.CutPrefix(s, "0x"); ok {
		digits, base = hex, 16
	}
	n, ok := new(big.Int).SetString(digits, base)
	if !ok || base == 10 && n.String() != s || base == 16 && (len(digits) > 16 || strings.ContainsAny(digits, "+-")) {
		return 0, false
	}
	v := wrapNumber(t, n)
	return v, number(t, v).Cmp(n) == 0
}
