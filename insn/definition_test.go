package insn_test

import (
	"fmt"
	"math"
	"slices"
	"strings"
	"testing"

	"tapline/api"
	"tapline/insn"
)

func TestP2_1Check(t *testing.T) {
	for _, x := range samples() {
		if e := insn.Check(x); e != api.OK {
			t.Errorf("Check of %+v: %d", x, e)
		}
	}
	for _, x := range wrong() {
		if e := insn.Check(x); e != api.ErrInsn {
			t.Errorf("Check of %+v: %d, want ErrInsn", x, e)
		}
	}
	for op := -300; op <= 300; op++ {
		for _, imm := range []int64{0, 1} {
			x := api.Insn{Op: op, Imm: imm}
			if is := insn.Check(x) == api.OK; is != wellFormed(x) {
				t.Errorf("Check of %+v: well-formed is %v", x, is)
			}
		}
	}
}

func TestP2_1EncodeAndLen(t *testing.T) {
	for _, x := range samples() {
		want := wantEncoding(x)
		if b, e := insn.Encode(x); !slices.Equal(b, want) || e != api.OK {
			t.Errorf("Encode of %+v = %v, %d; want %v", x, b, e, want)
		}
		if n, e := insn.Len(x); n != len(want) || e != api.OK {
			t.Errorf("Len of %+v = %d, %d; want %d", x, n, e, len(want))
		}
		if r, _ := rowOf(x.Op); len(want) != 1+r.behind {
			t.Errorf("the encoding of %+v has %d bytes; the table says 1 and %d", x, len(want), r.behind)
		}
	}
	for _, x := range wrong() {
		if b, e := insn.Encode(x); len(b) != 0 || e != api.ErrInsn {
			t.Errorf("Encode of %+v = %v, %d; want ErrInsn", x, b, e)
		}
		if n, e := insn.Len(x); n != 0 || e != api.ErrInsn {
			t.Errorf("Len of %+v = %d, %d; want ErrInsn", x, n, e)
		}
	}
}

// encodings returns the encodings of at most four bytes, each with its instruction, and all beginnings of these.
func encodings() (map[string]api.Insn, map[string]bool) {
	whole := map[string]api.Insn{}
	beginnings := map[string]bool{"": true}
	for _, r := range rows {
		if r.bytes == 10 {
			continue
		}
		var immediates []int64
		for imm := r.low; imm <= r.high; imm++ {
			immediates = append(immediates, imm)
		}
		for _, x := range r.all(immediates) {
			b := wantEncoding(x)
			whole[string(b)] = x
			for i := range b {
				beginnings[string(b[:i+1])] = true
			}
		}
	}
	return whole, beginnings
}

type decoded struct {
	x api.Insn
	n int
	e api.Errno
}

func decode(b []byte) decoded {
	x, n, e := insn.Decode(b)
	return decoded{x, n, e}
}

// TestP2_1Decode tries all sequences of two bytes, and behind those that are a beginning all thirds, and many fourths.
func TestP2_1Decode(t *testing.T) {
	whole, beginnings := encodings()
	want := func(b []byte) decoded {
		for n := range len(b) + 1 {
			if x, is := whole[string(b[:n])]; is {
				return decoded{x, n, api.OK}
			}
			if !beginnings[string(b[:n])] {
				return decoded{e: api.ErrInsn}
			}
		}
		return decoded{e: api.ErrShort}
	}
	try := func(b ...byte) {
		if b[0] == 128+api.InSet {
			return
		}
		if got := decode(b); got != want(b) {
			t.Fatalf("Decode of %v = %+v; want %+v", b, got, want(b))
		}
	}
	for i := range 256 {
		try(byte(i))
		for j := range 256 {
			b := []byte{byte(i), byte(j)}
			try(b...)
			if !beginnings[string(b)] {
				try(append(b, 0, 0)...)
				try(append(b, 255, 128)...)
				continue
			}
			for k := range 256 {
				try(append(b, byte(k))...)
				for _, l := range []byte{0, 1, 63, 64, 127, 128, 204, 255} {
					try(append(b, byte(k), l)...)
				}
			}
		}
	}
	if got := decode(nil); got != (decoded{e: api.ErrShort}) {
		t.Errorf("Decode of nothing = %+v", got)
	}
}

// TestP2_1DecodeSet: of the ten bytes, the last one has the sign and nothing else; the first byte that is wrong or missing decides.
func TestP2_1DecodeSet(t *testing.T) {
	r, _ := rowOf(api.InSet)
	for _, x := range r.all(r.immediates()) {
		b := wantEncoding(x)
		for n := range b {
			if got := decode(b[:n]); got != (decoded{e: api.ErrShort}) {
				t.Errorf("Decode of %v = %+v; want ErrShort", b[:n], got)
			}
		}
		for i := range b {
			for c := range 256 {
				changed := slices.Clone(b)
				changed[i] = byte(c)
				y := x
				ok := c < 128
				switch {
				case i == 0:
					ok = c == 131
				case i == 1:
					ok = c < 8
					y.A = c
				case i == 11:
					ok = c == 0 || c == 127
					y.Imm = y.Imm&math.MaxInt64 | int64(c/127)<<63
				default:
					y.Imm = y.Imm&^(127<<(7*(i-2))) | int64(c)<<(7*(i-2))
				}
				want := decoded{y, 12, api.OK}
				if !ok {
					want = decoded{e: api.ErrInsn}
				}
				if i == 0 && c >= 128 && c != 131 {
					continue // another operation
				}
				if got := decode(changed); got != want {
					t.Fatalf("Decode of %v = %+v; want %+v", changed, got, want)
				}
				if got := decode(changed[:i+1]); !ok && got != want {
					t.Fatalf("Decode of %v = %+v; want %+v", changed[:i+1], got, want)
				}
			}
		}
	}
}

func TestP2_1Sweep(t *testing.T) {
	source := random()
	pool := samples()
	for range 300 {
		var b []byte
		var want []api.Insn
		var offsets []int
		for range source.Intn(30) {
			x := pool[source.Intn(len(pool))]
			want = append(want, x)
			offsets = append(offsets, len(b))
			b = append(b, wantEncoding(x)...)
		}
		list, at, e := insn.Sweep(b)
		if !slices.Equal(list, want) || !slices.Equal(at, offsets) || e != api.OK {
			t.Fatalf("Sweep of %v = %v, %v, %d; want %v, %v", b, list, at, e, want, offsets)
		}
	}
}

func TestP2_1SweepRefuses(t *testing.T) {
	full := slices.Repeat([]byte{129}, 2048)
	if list, at, e := insn.Sweep(full); len(list) != 2048 || len(at) != 2048 || e != api.OK {
		t.Errorf("Sweep of 2048 bytes = %d instructions, %d offsets, %d", len(list), len(at), e)
	}
	for _, x := range []struct {
		b    []byte
		want api.Errno
	}{
		{append(slices.Clone(full), 129), api.ErrLong},
		{slices.Repeat([]byte{0}, 2049), api.ErrLong},
		{[]byte{129, 130}, api.ErrShort},
		{[]byte{129, 10, 130}, api.ErrInsn},
		{[]byte{129, 130, 64}, api.ErrInsn},
		{[]byte{130, 10, 10}, api.ErrInsn},
		{[]byte{129, 144, 3}, api.ErrShort},
		{[]byte{128}, api.ErrInsn},
	} {
		if list, at, e := insn.Sweep(x.b); len(list) != 0 || len(at) != 0 || e != x.want {
			t.Errorf("Sweep of %.20v = %v, %v, %d; want %d", x.b, list, at, e, x.want)
		}
	}
}

func TestP2_1Print(t *testing.T) {
	for _, x := range samples() {
		if line, e := insn.Print(x); line != wantLine(x) || e != api.OK {
			t.Errorf("Print of %+v = %q, %d; want %q", x, line, e, wantLine(x))
		}
	}
	for _, x := range wrong() {
		if line, e := insn.Print(x); line != "" || e != api.ErrInsn {
			t.Errorf("Print of %+v = %q, %d; want ErrInsn", x, line, e)
		}
	}
}

func tryParse(t *testing.T, line string) {
	t.Helper()
	x, e := insn.Parse(line)
	if want, _, wantE := wantParsed(line, false); x != want || e != wantE {
		t.Fatalf("Parse of %q = %+v, %d; want %+v, %d", line, x, e, want, wantE)
	}
}

func TestP2_1Parse(t *testing.T) {
	source := random()
	for _, x := range samples() {
		line := spaced(source, wantLine(x))
		if got, e := insn.Parse(line); got != x || e != api.OK {
			t.Fatalf("Parse of %q = %+v, %d; want %+v", line, got, e, x)
		}
	}
	for _, x := range few() {
		for range 200 {
			tryParse(t, changed(source, spaced(source, wantLine(x))))
		}
	}
}

// TestP2_1ParseOperands puts each operand in each place of each operation.
func TestP2_1ParseOperands(t *testing.T) {
	operands := []string{
		"r0", "r7", "r8", "r", "r00", "r10", "R1", "r-1", "x", "", " ", "_", "r1 r2", "r1,", "l", strings.Repeat("l", 31), strings.Repeat("l", 32),
		"0", "-0", "00", "5", "+5", "- 5", "--5", "63", "64", "-64", "-65", "127", "128", "0x1", "1e1", "5.", "1_0",
		"9223372036854775807", "9223372036854775808", "-9223372036854775808", "-9223372036854775809", "9999999999999999999", "-9999999999999999999",
		"0000000000000000005", "-0000000000000000005", "00000000000000000005", "18446744073709551616", "18446744073709551620", "0000000000000000064",
		"[r0]", "[r7+0]", "[r7-0]", "[r1+63]", "[r1+64]", "[r1-64]", "[r1-65]", "[ r1 ]", "[\tr1 \t+ \t5 ]", "[r1 -5]", "[r1+ 5]", "[r1 5]", "[r1+]", "[r1-]", "[r1+-5]", "[r1--5]", "[r8]", "[5]", "[r1", "r1]", "[]", "[[r1]]", "[r1+r2]", "[r1+5", "[r1+5]]", "[-r1]",
		"[r1+0000000000000000063]", "[r1+00000000000000000063]", "[r1+9999999999999999999]", "[r1-9999999999999999999]", "[r1+18446744073709551616]", "[r 1]",
		".+0", ".-0", ".+63", ".+64", ".-64", ".-65", ".+8191", ".+8192", ".-8192", ".-8193", ". +5", ".+ 5", ".5", ".", ".+", ".-", ".+-5", ".+5.", ".+5x", "+5", "..+5",
		".+9999999999999999999", ".-9999999999999999999", ".+18446744073709551616", ".-18446744073709551616", ".+0000000000000000005", ".-00000000000000000005", ".+9223372036854775808", ".-9223372036854775808",
	}
	for _, r := range rows {
		for _, one := range operands {
			tryParse(t, r.mnemonic+" "+one)
			tryParse(t, r.mnemonic+one)
			tryParse(t, r.mnemonic+" r1,r2,"+one)
			for _, two := range []string{"r3", "[r4]", "[r5-6]", "7", ".+8", "r9", "l"} {
				tryParse(t, r.mnemonic+" "+one+", "+two)
				tryParse(t, r.mnemonic+"\t"+two+" ,"+one)
			}
		}
	}
}

func TestP2_1ParseForms(t *testing.T) {
	for _, line := range []string{
		"", " ", "nop", " nop\t", "nop ", "nop,", "nop r1", "nop;", "nop ; x", "; nop", "nop\n", "\nnop", "nop\r", "nop\v", "nop\x00", "nop ", "Nop", "NOP", "no", "nopp", "n op", "nop nop", "l: nop", "l:", ".func f", "func f",
		"ret", "break", "breakpoint", "add r1,r2", "add r1,r2,", "add ,r1,r2", "add r1,,r2", "add r1 ,\t r2", "add,r1,r2", "addr1,r2", "add\tr1,r2", "add r1,r2 r3", "add r1;r2", "add r1, r2 ; sum",
		"load 1 r1,[r2]", "load2 r1,[r2]", "load1 [r1],r2", "store1 r1,[r2]", "store1 [r2+5] r1", "store1[r2],r1", "jump l", "jump .+5 ; x", "jump\t.-5", "jump.+5", "jump + 5", "call", "call r1", "jumpr .+1", "lea r1, l", "lea r1, .+5", "swap r1, r2", "swap r1, [r2+0]", "swap r1, [r2+ ]", "swap r1,[\tr2 ]", "swap [r2], r1", "sys -1", "sys 0", "sys -0", "sys 128", "sys r1", "db 1", "é", "nop é", "\xff", "nop\xff",
		"beq r1, r2, .+64 x", "beq r1, r2, .+64,", "beq r1, r8, .+64", "beq r1, r2, .+64", "beq r1, r2, .-64", "jump .+8192 ", "jump .+8192 8192", "lit r1, 64", "lit r1, 64 x", "lit r1, .+64",
	} {
		tryParse(t, line)
	}
	for _, x := range []struct {
		line string
		want api.Errno
	}{
		{strings.Repeat(" ", 20000-3) + "nop", api.OK},
		{strings.Repeat(" ", 20001-3) + "nop", api.ErrLong},
		{strings.Repeat("x", 20000), api.ErrAsm},
		{strings.Repeat("x", 20001), api.ErrLong},
		{"beq r1, r2, .+64" + strings.Repeat(" ", 20000), api.ErrLong},
	} {
		got, e := insn.Parse(x.line)
		if e != x.want || e != api.OK && got != (api.Insn{}) {
			t.Errorf("Parse of %d bytes, %.8q = %+v, %d; want %d", len(x.line), x.line, got, e, x.want)
		}
	}
}

func TestP2_1TargetAndRelative(t *testing.T) {
	for _, x := range append(samples(), wrong()...) {
		r, _ := rowOf(x.Op)
		relative := wellFormed(x) && r.relative
		for _, next := range []int64{0, 5, 1000, -7, 1 << 40, math.MaxInt64, math.MinInt64} {
			want := int64(0)
			if relative {
				want = next + x.Imm
			}
			if at, is := insn.Target(x, next); at != want || is != relative {
				t.Errorf("Target of %+v, %d = %d, %v; want %d, %v", x, next, at, is, want, relative)
			}
		}
		if want := relative || x.Op == api.InCallR && wellFormed(x); insn.Relative(x) != want {
			t.Errorf("Relative of %+v is not %v", x, want)
		}
	}
}

func TestP2_1ReadsAndWrites(t *testing.T) {
	want := func(x api.Insn, uses string) []int {
		var list []int
		for i := range 8 {
			if strings.Contains(uses, "A") && x.A == i || strings.Contains(uses, "B") && x.B == i || strings.Contains(uses, "7") && i == 7 {
				list = append(list, i)
			}
		}
		return list
	}
	for _, x := range append(samples(), wrong()...) {
		r, _ := rowOf(x.Op)
		if !wellFormed(x) {
			r = row{}
		}
		if got := insn.Reads(x); !slices.Equal(got, want(x, r.reads)) {
			t.Errorf("Reads of %+v = %v; want %v", x, got, want(x, r.reads))
		}
		if got := insn.Writes(x); !slices.Equal(got, want(x, r.writes)) {
			t.Errorf("Writes of %+v = %v; want %v", x, got, want(x, r.writes))
		}
	}
}

// TestP2_1Examples has the chapter's section Examples.
func TestP2_1Examples(t *testing.T) {
	code, syms, line, e := insn.Assemble(".func f\nl: inc r0, 1\njump l", 100)
	load, _ := insn.Print(api.Insn{Op: api.InLoad8, A: 1, B: 7, Imm: -8})
	store, _ := insn.Parse("store1 [ r2 + 3 ],r4")
	_, reach := insn.Parse("beq r1, r2, .+64")
	for _, x := range []struct{ got, want any }{
		{encode(api.Insn{Op: api.InMove, A: 1, B: 2}), []byte{130, 10}},
		{encode(api.Insn{Op: api.InInc, A: 3, Imm: -1}), []byte{144, 3, 127}},
		{encode(api.Insn{Op: api.InJump, Imm: 200}), []byte{153, 72, 1}},
		{encode(api.Insn{Op: api.InSet, Imm: -1}), []byte{131, 0, 127, 127, 127, 127, 127, 127, 127, 127, 127, 127}},
		{decode([]byte{130, 10, 204}), decoded{api.Insn{Op: api.InMove, A: 1, B: 2}, 2, api.OK}},
		{decode([]byte{130}), decoded{e: api.ErrShort}},
		{decode([]byte{10}), decoded{e: api.ErrInsn}},
		{decode([]byte{130, 64}), decoded{e: api.ErrInsn}},
		{load, "load8 r1, [r7-8]"},
		{store, api.Insn{Op: api.InStore1, A: 4, B: 2, Imm: 3}},
		{reach, api.ErrReach},
		{code, []byte{144, 0, 1, 153, 122, 127}},
		{syms, []api.Sym{{Name: "f", At: 100, Size: 6}}},
		{line, 0},
		{e, api.OK},
	} {
		if fmt.Sprintf("%#v", x.got) != fmt.Sprintf("%#v", x.want) {
			t.Errorf("%#v; want %#v", x.got, x.want)
		}
	}
}

func encode(x api.Insn) []byte {
	b, _ := insn.Encode(x)
	return b
}
