package bits_test

import (
	"bytes"
	"testing"

	"tapline/api"
	"tapline/bits"
)

// TestP1_2Ring: the ring operations of the lowest bits need only the lowest bits.
func TestP1_2Ring(t *testing.T) {
	for _, op := range ring {
		for _, c := range types {
			for _, x := range types {
				if x.Size > c.Size {
					continue
				}
				for _, a := range operands() {
					for _, b := range operands() {
						wide := wrap(t, x, apply(t, op, c, a, c, b))
						small := wrap(t, x, apply(t, op, x, wrap(t, x, a), x, wrap(t, x, b)))
						if wide != small {
							t.Fatalf("operation %d of %d and %d of type %v wraps to %d in %v; of the wrapped operands: %d", op, a, b, c, wide, x, small)
						}
					}
				}
			}
		}
	}
}

func TestP1_2CommutativeAndAssociative(t *testing.T) {
	for _, op := range ring {
		if op == api.BiSub {
			continue
		}
		for _, c := range types {
			for _, a := range few() {
				for _, b := range few() {
					if x, y := apply(t, op, c, a, c, b), apply(t, op, c, b, c, a); x != y {
						t.Fatalf("operation %d of type %v: %d and %d give %d, the other way round %d", op, c, a, b, x, y)
					}
				}
			}
		}
		for _, c := range promoted {
			for _, a := range few() {
				for _, b := range few() {
					for _, d := range few() {
						x := apply(t, op, c, apply(t, op, c, a, c, b), c, d)
						y := apply(t, op, c, a, c, apply(t, op, c, b, c, d))
						if x != y {
							t.Fatalf("operation %d of type %v: (%d, %d), %d give %d, with the other parentheses %d", op, c, a, b, d, x, y)
						}
					}
				}
			}
		}
	}
}

func TestP1_2SubtractionUndoesAddition(t *testing.T) {
	for _, c := range types {
		for _, a := range samples() {
			for _, b := range samples() {
				a, b := wrap(t, c, a), wrap(t, c, b)
				sumType, sum := binary(t, api.BiAdd, c, a, c, b)
				w, back := binary(t, api.BiSub, sumType, sum, c, b)
				if back != wrap(t, w, a) {
					t.Fatalf("type %v: %d + %d - %d = %d", c, a, b, b, back)
				}
			}
		}
	}
}

func TestP1_3Division(t *testing.T) {
	for _, x := range types {
		for _, y := range types {
			c := usual(t, x, y)
			for _, a := range operands() {
				for _, b := range operands() {
					dividend, divisor := wrap(t, c, wrap(t, x, a)), wrap(t, c, wrap(t, y, b))
					if divisor == 0 {
						continue
					}
					qt, q := binary(t, api.BiDiv, x, a, y, b)
					rt, r := binary(t, api.BiMod, x, a, y, b)
					if qt != c || rt != c {
						t.Fatalf("the quotient and the remainder of %v and %v have the types %v and %v", x, y, qt, rt)
					}
					if back := apply(t, api.BiAdd, c, apply(t, api.BiMul, c, q, c, divisor), c, r); back != dividend {
						t.Fatalf("types %v and %v: %d / %d = %d, %% %d: back %d", x, y, dividend, divisor, q, r, back)
					}
					rest := number(c, r)
					if rest.Sign() != 0 && rest.Sign() != number(c, dividend).Sign() {
						t.Fatalf("types %v and %v: %d %% %d = %d has another sign", x, y, dividend, divisor, r)
					}
					if rest.CmpAbs(number(c, divisor)) >= 0 {
						t.Fatalf("types %v and %v: %d %% %d = %d is too great", x, y, dividend, divisor, r)
					}
				}
			}
		}
	}
}

func TestP1_4CommonType(t *testing.T) {
	for _, a := range types {
		p, e := bits.Promote(a)
		if e != api.OK || usual(t, a, a) != p {
			t.Errorf("Usual(%v, %v) = %v; Promote %v, %d", a, a, usual(t, a, a), p, e)
		}
		if again, e := bits.Promote(p); again != p || e != api.OK {
			t.Errorf("Promote(%v) = %v, %d; want it unchanged", p, again, e)
		}
		if x := usual(t, a, a); usual(t, x, x) != x {
			t.Errorf("Usual(%v, %v) = %v", x, x, usual(t, x, x))
		}
		for _, b := range types {
			if usual(t, a, b) != usual(t, b, a) {
				t.Errorf("Usual(%v, %v) = %v, the other way round %v", a, b, usual(t, a, b), usual(t, b, a))
			}
			for _, c := range types {
				if x, y := usual(t, usual(t, a, b), c), usual(t, a, usual(t, b, c)); x != y {
					t.Errorf("Usual of %v, %v, %v is %v or %v", a, b, c, x, y)
				}
			}
		}
	}
}

func TestP1_5Representations(t *testing.T) {
	for _, x := range types {
		for _, v := range samples() {
			want := wrap(t, x, v)
			b, e := bits.Bytes(x, v)
			if back, f := bits.FromBytes(x, b); back != want || e != api.OK || f != api.OK || len(b) != x.Size {
				t.Errorf("type %v: %d has the bytes %v (%d), which are %d (%d)", x, v, b, e, back, f)
			}
			s, e := bits.Text(x, v)
			if back, f := bits.Parse(x, s); back != want || e != api.OK || f != api.OK {
				t.Errorf("type %v: %d has the text %q (%d), which is %d (%d)", x, v, s, e, back, f)
			}
		}
	}
}

func TestP1_5BytesOfFromBytes(t *testing.T) {
	patterns := []byte{0, 1, 127, 128, 200, 255}
	for _, x := range types {
		for _, first := range patterns {
			for _, middle := range patterns {
				for _, last := range patterns {
					b := bytes.Repeat([]byte{middle}, x.Size)
					b[0] = first
					b[x.Size-1] = last
					v, e := bits.FromBytes(x, b)
					if back, f := bits.Bytes(x, v); !bytes.Equal(back, b) || e != api.OK || f != api.OK {
						t.Fatalf("type %v: the bytes %v are %d (%d), which has the bytes %v (%d)", x, b, v, e, back, f)
					}
				}
			}
		}
	}
}

func TestP1_5TextOfParse(t *testing.T) {
	for _, x := range types {
		for _, s := range []string{
			"0", "1", "9", "10", "99", "100", "127", "128", "255", "-1", "-10", "-100", "-128", "32767", "65535", "-32768", "2147483647", "-2147483648", "4294967295", "1000000000",
			"9223372036854775807", "-9223372036854775808", "9223372036854775808", "18446744073709551615", "10000000000000000000",
		} {
			v, e := bits.Parse(x, s)
			if e != api.OK {
				continue // the type has no such value
			}
			if back, f := bits.Text(x, v); back != s || f != api.OK {
				t.Errorf("type %v: %q is %d, which has the text %q (%d)", x, s, v, back, f)
			}
		}
	}
	for v := int64(-128); v < 256; v++ {
		s := number(i8, v).String()
		for _, x := range []api.Int{i1, u1} {
			n, e := bits.Parse(x, s)
			if fits := wrap(t, x, v) == v; fits != (e == api.OK) {
				t.Errorf("Parse(%v, %q) = %d, %d", x, s, n, e)
			} else if back, _ := bits.Text(x, n); fits && (back != s || n != v) {
				t.Errorf("type %v: %q is %d, which has the text %q", x, s, n, back)
			}
		}
	}
}

func TestP1_6Order(t *testing.T) {
	for _, x := range types {
		for _, a := range few() {
			for _, b := range few() {
				a, b := wrap(t, x, a), wrap(t, x, b)
				ab, ba := compare(t, x, a, b), compare(t, x, b, a)
				if ab < -1 || ab > 1 || ab != -ba || (ab == 0) != (a == b) {
					t.Fatalf("Compare(%v) of %d and %d is %d, the other way round %d", x, a, b, ab, ba)
				}
				for _, c := range few() {
					c := wrap(t, x, c)
					if ab <= 0 && compare(t, x, b, c) <= 0 && compare(t, x, a, c) > 0 {
						t.Fatalf("Compare(%v): %d is not greater than %d, nor this than %d, but the first one than the last one", x, a, b, c)
					}
				}
			}
		}
	}
}

func TestP1_6ComparisonsAgree(t *testing.T) {
	for _, x := range types {
		for _, a := range samples() {
			for _, b := range samples() {
				for _, op := range comparisons {
					holds, _ := relation(op, compare(t, x, a, b))
					w, v := binary(t, op, x, a, x, b)
					if w != i4 || v != 0 && v != 1 || holds != (v == 1) {
						t.Fatalf("Binary(%d, %v, %d, %d) = %v, %d; Compare %d", op, x, a, b, w, v, compare(t, x, a, b))
					}
				}
			}
		}
	}
}

func TestP1_6Range(t *testing.T) {
	for _, x := range types {
		least, greatest, e := bits.Range(x)
		if e != api.OK || wrap(t, x, least) != least || wrap(t, x, greatest) != greatest {
			t.Fatalf("Range(%v) = %d, %d, %d: not values of it", x, least, greatest, e)
		}
		for _, v := range samples() {
			v := wrap(t, x, v)
			if compare(t, x, least, v) > 0 || compare(t, x, greatest, v) < 0 {
				t.Errorf("Range(%v) = %d, %d; but there is %d", x, least, greatest, v)
			}
		}
	}
}

func TestP1_7ShiftsMultiplyAndDivide(t *testing.T) {
	for _, x := range types {
		p := wantPromoted(x)
		for n := int64(0); n < int64(8*p.Size); n++ {
			for _, a := range samples() {
				w, left := binary(t, api.BiShl, x, a, i4, n)
				if want := apply(t, api.BiMul, x, a, p, wrap(t, p, 1<<n)); w != p || left != want {
					t.Fatalf("type %v: %d << %d = %d of type %v; the product is %d", x, a, n, left, w, want)
				}
				operand := number(x, a)
				if operand.Sign() < 0 {
					continue
				}
				w, right := binary(t, api.BiShr, x, a, i4, n)
				if want := wrapNumber(p, operand.Quo(operand, powerOf2(int(n)))); w != p || right != want {
					t.Fatalf("type %v: %d >> %d = %d of type %v; the quotient is %d", x, a, n, right, w, want)
				}
			}
		}
	}
}

func TestP1_7ShiftsAddUp(t *testing.T) {
	for _, op := range []int{api.BiShl, api.BiShr} {
		for _, x := range types {
			width := int64(8 * wantPromoted(x).Size)
			for n := int64(0); n < width; n++ {
				for m := int64(0); n+m < width; m++ {
					for _, a := range few() {
						w, once := binary(t, op, x, a, u1, n)
						twice := apply(t, op, w, once, i8, m)
						if want := apply(t, op, x, a, u4, n+m); twice != want {
							t.Fatalf("operation %d of %d of type %v by %d and %d: %d; by the sum: %d", op, a, x, n, m, twice, want)
						}
					}
				}
			}
		}
	}
}

// TestP1_7CountsWrap: a count counts modulo the width, also a negative one and one of another type.
func TestP1_7CountsWrap(t *testing.T) {
	for _, op := range []int{api.BiShl, api.BiShr} {
		for _, x := range types {
			width := int64(8 * wantPromoted(x).Size)
			for n := int64(0); n < width; n++ {
				for _, a := range few() {
					want := apply(t, op, x, a, i4, n)
					for _, other := range []int64{n + width, n - width, n - 1000*width, n + 1<<40, n - 1<<62} {
						for _, y := range types {
							if got := apply(t, op, x, a, y, other); got != want {
								t.Fatalf("operation %d of %d of type %v by %d of type %v: %d; by %d: %d", op, a, x, other, y, got, n, want)
							}
						}
					}
				}
			}
		}
	}
}

func TestP1_8Conversions(t *testing.T) {
	for _, from := range types {
		for _, to := range types {
			for _, v := range samples() {
				v := wrap(t, from, v)
				there := convert(t, from, to, v)
				n := number(from, v)
				if same := wrapNumber(to, n); number(to, same).Cmp(n) == 0 && there != same {
					t.Errorf("Convert(%v, %v, %d) = %d; but %d has the same number", from, to, v, there, same)
				}
				if back := convert(t, to, from, there); to.Size >= from.Size && back != v {
					t.Errorf("Convert(%v, %v, %d) = %d, and back %d", from, to, v, there, back)
				}
			}
		}
	}
}
