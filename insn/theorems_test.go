package insn_test

import (
	"fmt"
	"math/rand"
	"slices"
	"strings"
	"testing"

	"tapline/api"
	"tapline/insn"
)

var tails = [][]byte{nil, {0}, {10}, {127}, {128}, {204}, {255, 0}, {131}, {130, 10}, {0, 0, 0, 0, 0, 0, 0, 0, 0, 0, 0, 0}}

func TestP2_2Code(t *testing.T) {
	for _, x := range samples() {
		b := encode(x)
		for _, tail := range tails {
			if got := decode(slices.Concat(b, tail)); got != (decoded{x, len(b), api.OK}) {
				t.Fatalf("Decode of %v and %v = %+v; want %+v", b, tail, got, x)
			}
		}
	}
}

// randomBytes returns bytes that often are, or nearly are, encodings.
func randomBytes(source *rand.Rand, pool []api.Insn) []byte {
	var b []byte
	for range source.Intn(8) {
		switch source.Intn(8) {
		case 0:
			b = append(b, byte(source.Intn(256)))
		case 1:
			b = append(b, byte(source.Intn(128)), byte(128+source.Intn(40)))
		default:
			b = append(b, wantEncoding(pool[source.Intn(len(pool))])...)
		}
	}
	if len(b) > 0 && source.Intn(2) == 0 {
		b = b[source.Intn(len(b)):]
		b = b[:source.Intn(len(b)+1)]
	}
	return b
}

func TestP2_2CodeOfBytes(t *testing.T) {
	source := random()
	pool := samples()
	decodes := 0
	for range 50000 {
		b := randomBytes(source, pool)
		before := slices.Clone(b)
		x, n, e := insn.Decode(b)
		if !slices.Equal(b, before) {
			t.Fatalf("Decode changes %v to %v", before, b)
		}
		if e != api.OK {
			continue
		}
		decodes++
		if c, e := insn.Encode(x); e != api.OK || n > len(b) || !slices.Equal(c, b[:n]) {
			t.Fatalf("Decode of %v = %+v, %d; its encoding is %v, %d", b, x, n, c, e)
		}
	}
	if decodes < 1000 {
		t.Errorf("only %d of the sequences are decoded", decodes)
	}
}

func TestP2_3SelfSynchronization(t *testing.T) {
	for _, x := range samples() {
		b := encode(x)
		for i := 1; i < len(b); i++ {
			for _, tail := range tails {
				if got := decode(slices.Concat(b[i:], tail)); got != (decoded{e: api.ErrInsn}) {
					t.Fatalf("Decode of %v behind %d bytes, and %v = %+v; want ErrInsn", b, i, tail, got)
				}
			}
		}
	}
}

func TestP2_3OneSequence(t *testing.T) {
	source := random()
	pool := samples()
	for range 500 {
		var b []byte
		starts := map[int]bool{}
		for range 1 + source.Intn(10) {
			starts[len(b)] = true
			b = append(b, encode(pool[source.Intn(len(pool))])...)
		}
		for i := range b {
			_, offsets, e := insn.Sweep(b[i:])
			if (e == api.OK) != starts[i] {
				t.Fatalf("Sweep of %v behind %d bytes: %d", b, i, e)
			}
			for _, offset := range offsets {
				if !starts[i+offset] {
					t.Fatalf("Sweep of %v behind %d bytes has an instruction at %d", b, i, offset)
				}
			}
		}
	}
}

func TestP2_4Breakpoints(t *testing.T) {
	source := random()
	pool := samples()
	for range 400 {
		var b []byte
		var starts []int
		for range 1 + source.Intn(8) {
			starts = append(starts, len(b))
			b = append(b, encode(pool[source.Intn(len(pool))])...)
		}
		for _, start := range starts {
			broken := slices.Clone(b)
			broken[start] = 204
			for i := range len(b) + 1 {
				want := decode(b[i:])
				if i == start {
					want = decoded{api.Insn{Op: api.InBreak}, 1, api.OK}
				}
				if got := decode(broken[i:]); got != want {
					t.Fatalf("Decode of %v at %d, with a breakpoint at %d, = %+v; want %+v", b, i, start, got, want)
				}
			}
		}
	}
	if b := encode(api.Insn{Op: api.InBreak}); !slices.Equal(b, []byte{204}) {
		t.Errorf("the encoding of InBreak is %v", b)
	}
}

func TestP2_5Lines(t *testing.T) {
	for _, x := range samples() {
		line, _ := insn.Print(x)
		if got, e := insn.Parse(line); got != x || e != api.OK {
			t.Fatalf("Parse of %q = %+v, %d; want %+v", line, got, e, x)
		}
	}
}

func TestP2_6Listings(t *testing.T) {
	source := random()
	listed := 0
	for range 2000 {
		at := source.Int63n(1<<40 + 1)
		want := assemble(randomText(source), at)
		if want.err != api.OK {
			continue
		}
		listed++
		text, e := insn.Disassemble(want.code, at, want.syms)
		if e != api.OK {
			t.Fatalf("Disassemble of %v at %d, %v: %d", want.code, at, want.syms, e)
		}
		if got := assemble(text, at); !same(got, want) {
			t.Fatalf("Assemble of %q at %d = %+v; want %+v", text, at, got, want)
		}
	}
	if listed < 500 {
		t.Errorf("only %d texts are assembled", listed)
	}
}

// TestP2_6LongestListings: a listing is never too long for Assemble.
func TestP2_6LongestListings(t *testing.T) {
	var syms []api.Sym
	for i := range 32 {
		syms = append(syms, api.Sym{Name: fmt.Sprintf("%s%02d", strings.Repeat("n", 29), i), At: 1 << 40})
	}
	for _, x := range few() {
		b := encode(x)
		code := slices.Repeat(b, 2048/len(b))
		syms[31].Size = int64(len(code))
		text, e := insn.Disassemble(code, 1<<40, syms)
		if got := assemble(text, 1<<40); e != api.OK || !same(got, assembled{code: code, syms: syms}) {
			t.Errorf("Assemble of the listing of %+v: line %d, %d; %d", x, got.line, got.err, e)
		}
	}
}

func TestP2_7Position(t *testing.T) {
	source := random()
	for i := range 3000 {
		text := randomText(source)
		if i%2 == 1 {
			text = changed(source, text)
		}
		first := assemble(text, 0)
		for _, at := range []int64{1, 64, source.Int63n(1 << 40), 1 << 40} {
			moved := assemble(text, at)
			for j := range moved.syms {
				moved.syms[j].At -= at
			}
			if !same(moved, first) {
				t.Fatalf("Assemble of %q at %d = %+v with the symbols moved to 0; at 0: %+v", text, at, moved, first)
			}
		}
	}
}

func TestP2_8Concatenation(t *testing.T) {
	source := random()
	pool := few()
	text := func() (string, []byte) {
		var lines []string
		var code []byte
		for range source.Intn(12) {
			x := pool[source.Intn(len(pool))]
			lines = append(lines, spaced(source, wantLine(x))+[]string{"", ";", "; l:", "\n"}[source.Intn(4)])
			code = append(code, encode(x)...)
		}
		return strings.Join(lines, "\n"), code
	}
	for range 1000 {
		one, first := text()
		two, second := text()
		a, b, both := assemble(one, 5), assemble(two, 5), assemble(one+"\n"+two, 5)
		if !same(a, assembled{code: first}) || !same(b, assembled{code: second}) || !same(both, assembled{code: slices.Concat(first, second)}) {
			t.Fatalf("Assemble of %q and %q: %+v and %+v, together %+v", one, two, a, b, both)
		}
	}
}

func TestP2_9Lengths(t *testing.T) {
	seen := map[int]bool{}
	for _, x := range samples() {
		n, e := insn.Len(x)
		seen[n] = true
		if n < 1 || n > 12 || n != len(encode(x)) || e != api.OK {
			t.Errorf("the encoding of %+v has %d bytes, Len is %d, %d", x, len(encode(x)), n, e)
		}
	}
	if !seen[1] || !seen[12] {
		t.Errorf("the lengths are %v, without 1 or 12", seen)
	}
	source := random()
	pool := samples()
	for range 500 {
		var b []byte
		for range 1 + source.Intn(20) {
			b = append(b, encode(pool[source.Intn(len(pool))])...)
		}
		list, offsets, _ := insn.Sweep(b)
		next := 0
		for i, x := range list {
			n, _ := insn.Len(x)
			if offsets[i] != next {
				t.Fatalf("Sweep of %v: offset %d is %d; want %d", b, i, offsets[i], next)
			}
			next += n
		}
		if next != len(b) {
			t.Fatalf("Sweep of %v: the instructions have %d bytes", b, next)
		}
	}
}

// TestP2_10Labels replaces the targets of a text by distances, which it takes from the places of the lines.
func TestP2_10Labels(t *testing.T) {
	source := random()
	pool := few()
	for range 1000 {
		count := 1 + source.Intn(12)
		places := make([]int, count+1)
		var list []api.Insn
		for i := range count {
			x := pool[source.Intn(len(pool))]
			list = append(list, x)
			places[i+1] = places[i] + len(encode(x))
		}
		var named, plain strings.Builder
		for i, x := range list {
			line := wantLine(x)
			fmt.Fprintf(&named, "l%d: ", i)
			if r, _ := rowOf(x.Op); r.relative {
				to := source.Intn(count + 1)
				distance := places[to] - places[i+1]
				if int64(distance) >= r.low && int64(distance) <= r.high {
					head := line[:strings.Index(line, ".")]
					fmt.Fprintf(&named, "%sl%d\n", head, to)
					fmt.Fprintf(&plain, "%s.%+d\n", head, distance)
					continue
				}
			}
			named.WriteString(line + "\n")
			plain.WriteString(line + "\n")
		}
		fmt.Fprintf(&named, "l%d:", count)
		a, b := assemble(named.String(), 9), assemble(plain.String(), 9)
		if a.err != api.OK || !same(a, b) {
			t.Fatalf("Assemble of %q = %+v; of %q: %+v", named.String(), a, plain.String(), b)
		}
	}
}

// TestP1AnyArguments: no arguments make a function of the layer panic, and errors come with zero values.
func TestP1AnyArguments(t *testing.T) {
	source := random()
	for range 20000 {
		b := make([]byte, source.Intn(40))
		for i := range b {
			b[i] = byte(source.Uint32())
		}
		if got := decode(b); got.e != api.OK && (got.x != api.Insn{} || got.n != 0) {
			t.Fatalf("Decode of %v = %+v", b, got)
		}
		if x, e := insn.Parse(string(b)); e != api.OK && x != (api.Insn{}) {
			t.Fatalf("Parse of %q = %+v, %d", b, x, e)
		}
		got := assemble(string(b), source.Int63n(1000)-10)
		if got.err != api.OK && (len(got.code) > 0 || len(got.syms) > 0) || got.err == api.OK && got.line != 0 {
			t.Fatalf("Assemble of %q = %+v", b, got)
		}
		syms := make([]api.Sym, source.Intn(3))
		for i := range syms {
			syms[i] = api.Sym{Name: string(b), At: int64(source.Uint64()), Size: int64(source.Uint64())}
		}
		if text, e := insn.Disassemble(b, int64(source.Uint64()), syms); e != api.OK && text != "" {
			t.Fatalf("Disassemble of %v = %q, %d", b, text, e)
		}
		x := api.Insn{Op: source.Intn(80) - 2, A: source.Intn(12) - 2, B: source.Intn(12) - 2, Imm: int64(source.Uint64())}
		insn.Target(x, x.Imm)
		insn.Relative(x)
		insn.Reads(x)
		insn.Writes(x)
	}
}

// TestP1NewMemory: results do not share memory from call to call.
func TestP1NewMemory(t *testing.T) {
	x := api.Insn{Op: api.InPop, A: 3}
	clear(encode(x))
	clear(insn.Reads(x))
	clear(insn.Writes(x))
	if !slices.Equal(encode(x), []byte{159, 3}) || !slices.Equal(insn.Reads(x), []int{7}) || !slices.Equal(insn.Writes(x), []int{3, 7}) {
		t.Error("a result that was changed changes that of the next call")
	}
}
