package ctf

import "tapline/api"

// header is what the bytes of type data begin with.
const header = "CTF\x01"

// more is added to each byte of an integer but the last one.
const more = 128

// lastShift is the place of the last bits of an integer: of 64 bits one is left there.
const lastShift = 63

func encoded(t api.Types) []byte {
	return appendList([]byte(header), t.Defs, appendDef)
}

func appendDef(b []byte, d api.Def) []byte {
	b = appendInteger(b, d.Kind)
	b = appendString(b, d.Name)
	b = appendInteger(b, d.Int.Size)
	b = appendBool(b, d.Int.Signed)
	b = appendInteger(b, d.Ref)
	b = appendInteger(b, d.N)
	return appendList(b, d.Fields, appendField)
}

func appendField(b []byte, f api.Field) []byte {
	b = appendString(b, f.Name)
	b = appendInteger(b, f.Type)
	return appendInteger(b, f.At)
}

func appendInteger(b []byte, x int) []byte {
	rest := uint64(x) << 1
	if x < 0 {
		rest = ^rest
	}
	for ; rest >= more; rest >>= 7 {
		b = append(b, byte(rest)|more)
	}
	return append(b, byte(rest))
}

func appendBool(b []byte, x bool) []byte {
	if x {
		return append(b, 1)
	}
	return append(b, 0)
}

func appendString(b []byte, s string) []byte {
	return append(appendInteger(b, len(s)), s...)
}

func appendList[T any](b []byte, list []T, one func(b []byte, x T) []byte) []byte {
	b = appendInteger(b, len(list))
	for _, x := range list {
		b = one(b, x)
	}
	return b
}

// malformed is what a source panics with where a byte cannot stand, or is missing.
type malformed struct{}

func require(holds bool) {
	if !holds {
		panic(malformed{})
	}
}

// source is what is left of some bytes.
type source struct{ rest []byte }

func (s *source) take(n int) []byte {
	require(0 <= n && n <= len(s.rest))
	b := s.rest[:n]
	s.rest = s.rest[n:]
	return b
}

func (s *source) next() byte { return s.take(1)[0] }

// decoder reads type data from a source.
type decoder struct{ source }

// decoded returns the type data whose bytes b are as a whole, if there is any.
func decoded(b []byte) (t api.Types, exists bool) {
	defer func() {
		switch r := recover().(type) {
		case nil, malformed:
		default:
			panic(r)
		}
	}()
	d := decoder{source{b}}
	return d.types(), true
}

func (d *decoder) types() api.Types {
	begin := d.take(len(header))
	require(string(begin) == header)
	t := api.Types{Defs: readList(d, d.def)}
	require(len(d.rest) == 0)
	return t
}

func (d *decoder) def() api.Def {
	var x api.Def
	x.Kind = d.integer()
	x.Name = d.text()
	x.Int.Size = d.integer()
	x.Int.Signed = d.bool()
	x.Ref = d.integer()
	x.N = d.integer()
	x.Fields = readList(d, d.field)
	return x
}

func (d *decoder) field() api.Field {
	var f api.Field
	f.Name = d.text()
	f.Type = d.integer()
	f.At = d.integer()
	return f
}

func (d *decoder) integer() int {
	var v uint64
	for shift := 0; ; shift += 7 {
		c := d.next()
		// The last byte that fits has one bit; a byte of 0 is necessary only alone.
		require(shift < lastShift || c <= 1)
		require(shift == 0 || c != 0)
		v |= uint64(c&^more) << shift
		if c < more {
			return signed(v)
		}
	}
}

// signed returns the integer x of which v is 2x, or -2x - 1.
func signed(v uint64) int {
	x := int(v >> 1)
	if v&1 == 1 {
		return ^x
	}
	return x
}

func (d *decoder) bool() bool {
	c := d.next()
	require(c <= 1)
	return c == 1
}

func (d *decoder) text() string { return string(d.take(d.integer())) }

func readList[T any](d *decoder, one func() T) []T {
	n := d.integer()
	require(n >= 0)
	var list []T
	for range n {
		x := one()
		list = append(list, x)
	}
	return list
}
