package insn_test

import (
	"fmt"
	"math"
	"slices"
	"strings"
	"testing"

	"tapline/api"
	"tapline/insn"
)

func assemble(text string, at int64) assembled {
	code, syms, line, e := insn.Assemble(text, at)
	return assembled{code, syms, line, e}
}

func same(a, b assembled) bool {
	return slices.Equal(a.code, b.code) && slices.Equal(a.syms, b.syms) && a.line == b.line && a.err == b.err
}

func tryAssemble(t *testing.T, text string, at int64) assembled {
	t.Helper()
	got, want := assemble(text, at), wantAssembled(text, at)
	if !same(got, want) {
		t.Fatalf("Assemble of %.300q at %d = %+v; want %+v", text, at, got, want)
	}
	return got
}

func TestP2_1Assemble(t *testing.T) {
	source := random()
	places := []int64{0, 1, 100, 1<<40 - 1, 1 << 40}
	outcomes := map[api.Errno]int{}
	for i := range 8000 {
		text := randomText(source)
		if i%2 == 1 {
			text = changed(source, text)
		}
		outcomes[tryAssemble(t, text, places[i%len(places)]).err]++
	}
	for _, e := range []api.Errno{api.OK, api.ErrAsm, api.ErrLabel, api.ErrReach} {
		if outcomes[e] < 100 {
			t.Errorf("only %d texts with the result %d", outcomes[e], e)
		}
	}
}

func TestP2_1AssembleForms(t *testing.T) {
	long := strings.Repeat("n", 31)
	for _, text := range []string{
		"", "\n", "\n\n", ";", " ; x\n\t;", "nop", "nop\n", "\nnop", "nop\n\nret", "nop;ret", "nop ;", ";nop\nret", "nop\r\nret", "nop nop", "nop\vret",
		"l:", "l :", "l\t :nop", " l: nop", "\tl:\tnop ", "l:nop", "l: l: nop", "l: m:", "l:;nop", ":", " :nop", "1:", "1l: nop", "l-: nop", "l.m: nop", "é: nop", long + ": nop", long + "n: nop", "_:nop", "L9_: nop", "nop: nop", "nop:ret", "r0: jump r0", "func: nop", "A: jump A", "Z: jump Z", "a: jump a", "z: jump z", "x0: jump x0", "xAZaz_09: jump xAZaz_09", "@: nop", "[: nop", "`: nop", "{: nop", "x/: nop", "x@: nop", "x[: nop", "x`: nop", "x{: nop", "l", "l nop", "l: x", "l: nop x",
		".func f", " .func\tf ", ".func f;x", ".funcf", ".func", ".func ", ".func  f g", ".func f:", ".func f nop", ".func 1", ".func .f", ".func " + long, ".func " + long + "n", "l: .func f", "l:\n.func f", ".Func f", ".function f", ". func f", ".fun f", ".func\nf", ".func f, g", "nop .func f", ".func func",
		"jump l\nl:", "l: jump l", "jump l\nl: nop", "beq r0, r1, l\nnop\nl: ret", "lea r3,l\nl:", "call l\n.func l", "jump nop\nnop: ret", "jump .+5", "jump .+8192", "jump .-8193", "jump l", "jump L\nl:", "jump 5", "jump .l", "jump " + long + "\n" + long + ":", "jump " + long + "n", "jump l m\nl:\nm:", "jump l ; m\nl:", "jumpr l\nl:", "push l\nl:", "lit r1, l\nl:", "sys l\nl:", "beq r1, l\nl:", "beq l, r1, r2\nl:", "load1 r1, l\nl:", "load1 r1, [l]\nl:",
		"l:\nl:", "l: nop\nl: ret", ".func f\n.func f", "f:\n.func f", ".func f\nf: nop", "l: nop\nL: nop",
		"lit r0, 64", "nop\nlit r0, 64\nx", "load1 r1, [r2+64]", "sys 128", "set r0, 9223372036854775808",
		"l:\nl: x", "l:\nl: lit r0, 64", "jump .+8192\nx", "jump .+8192\nl:\nl:", "jump .+8192\njump l", "jump l\njump .+8192", "jump l\nx", "jump l\nm:\nm:", "m:\nm:\nx", "x\nm:\nm:", "nop\n\n;\njump l", "beq r0, r0, .+64\nbeq r0, r0, m",
		"beq r1, r2, .+64 x", "jump .+99999999999999999999", "jump .+9999999999999999999", "jump .-9999999999999999999",
		".func a\n.func b\nnop\n.func c\nret\nret\n.func d", ".func a", "nop\n.func a\n.func b",
		"l: set r0, -1\nm: jump m\n.func z\njump l",
	} {
		tryAssemble(t, text, 0)
		tryAssemble(t, text, 77)
	}
}

func TestP2_1AssembleReach(t *testing.T) {
	fill := func(n int) string { return strings.Repeat("nop\n", n) }
	for _, n := range []int{0, 1, 60, 61, 62, 63, 64, 65, 66, 2045, 2046} {
		for _, branch := range []string{"beq r1, r2, l\n", "jump l\n", "call l\n", "bge r1, r2, l\n"} {
			tryAssemble(t, branch+fill(n)+"l:", 5)
			tryAssemble(t, "l:\n"+fill(n)+branch, 5)
		}
	}
}

func TestP2_1AssembleLimits(t *testing.T) {
	var heads []string
	for i := range 33 {
		heads = append(heads, fmt.Sprintf(".func f%d\nnop\n", i))
	}
	for _, x := range []struct {
		text string
		line int
		want api.Errno
	}{
		{strings.Repeat("nop\n", 2048), 0, api.OK},
		{strings.Repeat("nop\n", 2048) + "l: m:", 2049, api.ErrAsm},
		{strings.Repeat("nop\n", 2049), 2049, api.ErrLong},
		{strings.Repeat("nop\n", 2049) + "x", 2049, api.ErrLong},
		{"l: " + strings.Repeat("nop\n", 2048) + "l: nop", 2049, api.ErrLabel},
		{strings.Repeat("nop\n", 2048) + "nop x", 2049, api.ErrAsm},
		{strings.Repeat("nop\n", 2048) + "l: ;\n\n", 0, api.OK},
		{strings.Repeat("nop\n", 2037) + "set r0, 1", 2038, api.ErrLong},
		{strings.Repeat("nop\n", 2036) + "set r0, 1", 0, api.OK},
		{strings.Repeat("nop\n", 2047) + "push r0", 2048, api.ErrLong},
		{"jump x\n" + strings.Repeat("nop\n", 2046), 2047, api.ErrLong},
		{strings.Join(heads[:32], ""), 0, api.OK},
		{strings.Join(heads, ""), 65, api.ErrLong},
		{strings.Join(heads[:32], "") + ".func f0", 65, api.ErrLabel},
		{strings.Join(heads[:32], "") + ".func f f", 65, api.ErrAsm},
		{strings.Join(heads[:32], "") + "f32: nop", 0, api.OK},
		{"jump .+8192\n" + strings.Join(heads, ""), 66, api.ErrLong},
		{strings.Repeat(" ", 20000-3) + "ret", 0, api.OK},
		{strings.Repeat(" ", 20001-3) + "ret", 0, api.ErrLong},
		{strings.Repeat("x", 20001), 0, api.ErrLong},
	} {
		if got := assemble(x.text, 9); got.line != x.line || got.err != x.want {
			t.Errorf("Assemble of %.20q, %d bytes: line %d, %d; want %d, %d", x.text, len(x.text), got.line, got.err, x.line, x.want)
		}
		if len(x.text) <= 20000 {
			tryAssemble(t, x.text, 9)
		}
	}
}

var badPlaces = []int64{-1, 1<<40 + 1, math.MaxInt64, math.MinInt64, math.MinInt64 + 1}

func TestP2_1AssembleAt(t *testing.T) {
	for _, at := range badPlaces {
		if got := assemble("x\n", at); !same(got, assembled{err: api.ErrArg}) {
			t.Errorf("Assemble at %d = %+v; want ErrArg", at, got)
		}
		if got := assemble(strings.Repeat(" ", 20001), at); !same(got, assembled{err: api.ErrLong}) {
			t.Errorf("Assemble of too long a text at %d = %+v; want ErrLong", at, got)
		}
	}
	for _, at := range []int64{0, 1, 1<<40 - 1, 1 << 40} {
		want := assembled{code: []byte{129}, syms: []api.Sym{{Name: "f", At: at, Size: 1}, {Name: "g", At: at + 1}}}
		if got := assemble(".func f\nnop\n.func g", at); !same(got, want) {
			t.Errorf("Assemble at %d = %+v; want %+v", at, got, want)
		}
	}
}

// wantListing returns the text of well-formed instructions, with the symbols of a correct list.
func wantListing(list []api.Insn, at int64, syms []api.Sym) string {
	text := ""
	symbols := func() {
		for _, s := range syms {
			if s.At == at {
				text += ".func " + s.Name + "\n"
			}
		}
	}
	for _, x := range list {
		symbols()
		text += wantLine(x) + "\n"
		at += int64(len(wantEncoding(x)))
	}
	symbols()
	return text
}

func TestP2_1Disassemble(t *testing.T) {
	source := random()
	for range 1000 {
		at := source.Int63n(1<<40 + 1)
		got := assemble(randomText(source), at)
		if got.err != api.OK {
			continue
		}
		list, _, _ := insn.Sweep(got.code)
		want := wantListing(list, at, got.syms)
		before := slices.Clone(got.syms)
		if text, e := insn.Disassemble(got.code, at, got.syms); text != want || e != api.OK {
			t.Fatalf("Disassemble of %v at %d, %v = %q, %d; want %q", got.code, at, got.syms, text, e, want)
		}
		if !slices.Equal(before, got.syms) {
			t.Fatalf("Disassemble changes the symbols %v to %v", before, got.syms)
		}
	}
	for _, x := range samples() {
		if text, e := insn.Disassemble(wantEncoding(x), 3, nil); text != wantLine(x)+"\n" || e != api.OK {
			t.Errorf("Disassemble of %+v = %q, %d", x, text, e)
		}
	}
	if text, e := insn.Disassemble(nil, 1<<40, []api.Sym{{Name: "a", At: 1 << 40}, {Name: "b", At: 1 << 40}}); text != ".func a\n.func b\n" || e != api.OK {
		t.Errorf("Disassemble of no instructions = %q, %d", text, e)
	}
}

func TestP2_1DisassembleSymbols(t *testing.T) {
	code := []byte{144, 0, 1, 153, 122, 127, 157} // inc, jump, ret
	long := strings.Repeat("n", 31)
	for _, x := range []struct {
		syms []api.Sym
		want string
	}{
		{nil, "inc r0, 1\njump .-6\nret\n"},
		{[]api.Sym{{Name: "f", At: 50, Size: 7}}, ".func f\ninc r0, 1\njump .-6\nret\n"},
		{[]api.Sym{{Name: "f", At: 53, Size: 4}}, "inc r0, 1\n.func f\njump .-6\nret\n"},
		{[]api.Sym{{Name: long, At: 57}}, "inc r0, 1\njump .-6\nret\n.func " + long + "\n"},
		{[]api.Sym{{Name: "f", At: 50}, {Name: "_9", At: 50, Size: 6}, {Name: "B", At: 56, Size: 1}, {Name: "b", At: 57}}, ".func f\n.func _9\ninc r0, 1\njump .-6\n.func B\nret\n.func b\n"},
		{[]api.Sym{{Name: "f", At: 50, Size: 6}}, ""},
		{[]api.Sym{{Name: "f", At: 50, Size: 8}}, ""},
		{[]api.Sym{{Name: "f", At: 50}}, ""},
		{[]api.Sym{{Name: "f", At: 57, Size: 1}}, ""},
		{[]api.Sym{{Name: "f", At: 57, Size: -1}}, ""},
		{[]api.Sym{{Name: "f", At: 50, Size: 4}, {Name: "g", At: 53, Size: 4}}, ""},
		{[]api.Sym{{Name: "f", At: 50, Size: 3}, {Name: "g", At: 53, Size: 3}}, ""},
		{[]api.Sym{{Name: "f", At: 53, Size: -3}, {Name: "g", At: 50, Size: 7}}, ""},
		{[]api.Sym{{Name: "f", At: 53, Size: 4}, {Name: "g", At: 50, Size: 7}}, ""},
		{[]api.Sym{{Name: "f", At: 50, Size: 3}, {Name: "f", At: 53, Size: 4}}, ""},
		{[]api.Sym{{Name: "f", At: 50, Size: 3}, {Name: "g", At: 53, Size: 3}, {Name: "f", At: 56, Size: 1}}, ""},
		{[]api.Sym{{Name: "f", At: 51, Size: 6}}, ""},
		{[]api.Sym{{Name: "f", At: 54, Size: 3}}, ""},
		{[]api.Sym{{Name: "f", At: 49, Size: 8}}, ""},
		{[]api.Sym{{Name: "f", At: 58, Size: -1}}, ""},
		{[]api.Sym{{Name: "f", At: 0, Size: 57}}, ""},
		{[]api.Sym{{Name: "f", At: math.MinInt64, Size: math.MinInt64 + 57}}, ""},
		{[]api.Sym{{Name: "f", At: math.MaxInt64, Size: 57 - math.MaxInt64}}, ""},
		{[]api.Sym{{Name: "", At: 50, Size: 7}}, ""},
		{[]api.Sym{{Name: "9f", At: 50, Size: 7}}, ""},
		{[]api.Sym{{Name: "f g", At: 50, Size: 7}}, ""},
		{[]api.Sym{{Name: "f\n", At: 50, Size: 7}}, ""},
		{[]api.Sym{{Name: " f", At: 50, Size: 7}}, ""},
		{[]api.Sym{{Name: "f.", At: 50, Size: 7}}, ""},
		{[]api.Sym{{Name: "é", At: 50, Size: 7}}, ""},
		{[]api.Sym{{Name: long + "n", At: 50, Size: 7}}, ""},
	} {
		want := api.OK
		if x.want == "" {
			want = api.ErrForm
		}
		if text, e := insn.Disassemble(code, 50, x.syms); text != x.want || e != want {
			t.Errorf("Disassemble with %v = %q, %d; want %q, %d", x.syms, text, e, x.want, want)
		}
	}
}

// TestP2_1DisassembleErrors: too many symbols come first, then the address, then the bytes, then the symbols.
func TestP2_1DisassembleErrors(t *testing.T) {
	many := func(n int) []api.Sym {
		var syms []api.Sym
		for i := range n {
			syms = append(syms, api.Sym{Name: fmt.Sprint("f", i), At: 7})
		}
		return syms
	}
	bad := []api.Sym{{Name: "f", At: 3}}
	long := slices.Repeat([]byte{129}, 2049)
	for _, x := range []struct {
		b    []byte
		at   int64
		syms []api.Sym
		want api.Errno
	}{
		{nil, 7, many(32), api.OK},
		{nil, 7, many(33), api.ErrLong},
		{[]byte{10}, -1, slices.Repeat(bad, 33), api.ErrLong},
		{[]byte{10}, -1, bad, api.ErrArg},
		{long, -1, bad, api.ErrArg},
		{long, 7, bad, api.ErrLong},
		{long[:2048], 7, nil, api.OK},
		{[]byte{10}, 7, bad, api.ErrInsn},
		{[]byte{129, 130}, 7, bad, api.ErrShort},
		{[]byte{129, 130, 10}, 7, bad, api.ErrForm},
		{[]byte{129}, 1 << 40, nil, api.OK},
	} {
		text, e := insn.Disassemble(x.b, x.at, x.syms)
		if e != x.want || e != api.OK && text != "" {
			t.Errorf("Disassemble of %.20v at %d, %.100v = %.20q, %d; want %d", x.b, x.at, x.syms, text, e, x.want)
		}
	}
	for _, at := range badPlaces {
		if text, e := insn.Disassemble(nil, at, nil); text != "" || e != api.ErrArg {
			t.Errorf("Disassemble at %d = %q, %d; want ErrArg", at, text, e)
		}
	}
}
