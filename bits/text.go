package bits

import (
	"strconv"
	"strings"

	"tapline/api"
)

const maxHexDigits = 16

// Bytes returns the bytes of a value, least significant first.
func Bytes(t api.Int, v int64) ([]byte, api.Errno) {
	if !valid(t) {
		return nil, api.ErrInt
	}
	b := make([]byte, t.Size)
	for i := range b {
		b[i] = byte(v >> (8 * i))
	}
	return b, api.OK
}

// FromBytes returns the value that bytes represent.
func FromBytes(t api.Int, b []byte) (int64, api.Errno) {
	if !valid(t) {
		return 0, api.ErrInt
	}
	if len(b) != t.Size {
		return 0, api.ErrArg
	}
	v := int64(0)
	for i, x := range b {
		v |= int64(x) << (8 * i)
	}
	return wrap(t, v), api.OK
}

// Text returns a value in decimal digits.
func Text(t api.Int, v int64) (string, api.Errno) {
	if !valid(t) {
		return "", api.ErrInt
	}
	v = wrap(t, v)
	var text []byte
	magnitude := uint64(v)
	if t.Signed && v < 0 {
		text = append(text, '-')
		magnitude = -magnitude
	}
	var write func(n uint64)
	write = func(n uint64) {
		if n >= 10 {
			write(n / 10)
		}
		text = append(text, byte('0'+n%10))
	}
	write(magnitude)
	return string(text), api.OK
}

// Parse returns the value of a string of decimal or hexadecimal digits.
func Parse(t api.Int, s string) (int64, api.Errno) {
	if !valid(t) {
		return 0, api.ErrInt
	}
	if digits, ok := strings.CutPrefix(s, "0x"); ok {
		magnitude, ok := hexadecimal(digits)
		if !ok {
			return 0, api.ErrText
		}
		return numbered(t, false, magnitude)
	}
	digits, negative := strings.CutPrefix(s, "-")
	magnitude, ok := decimal(digits)
	if !ok || negative && magnitude == 0 {
		return 0, api.ErrText
	}
	return numbered(t, negative, magnitude)
}

func hexadecimal(digits string) (uint64, bool) {
	if len(digits) > maxHexDigits {
		return 0, false
	}
	n, err := strconv.ParseUint(digits, 16, 64)
	return n, err == nil
}

func decimal(digits string) (uint64, bool) {
	if len(digits) > 1 && digits[0] == '0' {
		return 0, false
	}
	n, err := strconv.ParseUint(digits, 10, 64)
	return n, err == nil
}

// numbered returns the value of t whose number has a sign and a magnitude.
func numbered(t api.Int, negative bool, magnitude uint64) (int64, api.Errno) {
	least, greatest := limits(t)
	if negative {
		if magnitude > -uint64(least) {
			return 0, api.ErrText
		}
		return int64(-magnitude), api.OK
	}
	if magnitude > uint64(greatest) {
		return 0, api.ErrText
	}
	return int64(magnitude), api.OK
}
