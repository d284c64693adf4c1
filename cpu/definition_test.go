package cpu_test

import (
	"math"
	"slices"
	"testing"

	"tapline/api"
	"tapline/cpu"
	"tapline/insn"
	"tapline/mem"
)

// P4.1: all functions behave as the chapter describes them.

// registersFor returns registers with which instructions do much in a space, and some with which they do not.
func registersFor(s api.Space) []api.Regs {
	end := int64(len(s.Bytes))
	list := []api.Regs{
		{},
		{R: [8]int64{100, 3, 3, -3, 64, 120, 0, 128}, Pc: 10},
		{R: [8]int64{72, 80, 88, -1, 1, 0x123456789abcdef, math.MinInt64, 104}, Pc: 4},
		{R: [8]int64{end - 8, end - 7, end, 60, 130, math.MaxInt64, math.MinInt64 + 4, end}, Pc: math.MaxInt64},
		{R: [8]int64{2, 65, -2, 64, math.MinInt64, -1, -64, 8}, Pc: math.MinInt64},
	}
	source := random()
	for range 8 {
		list = append(list, randomRegisters(source, s))
	}
	return list
}

func TestP4_1Exec(t *testing.T) {
	kinds := map[int]int{}
	for _, s := range spaces() {
		for _, r := range registersFor(s) {
			for _, x := range instructions() {
				got, e := cpu.Exec(x, s, r)
				if want := wantEffect(x, s, r); e != api.OK || !equal(got, want) {
					t.Fatalf("Exec of %v, %v in pages %v = %v, %d; want %v", x, r, s.Perm, got, e, want)
				}
				kinds[got.Trap.Kind]++
			}
		}
	}
	for _, kind := range []int{api.TrNone, api.TrSys, api.TrBreak, api.TrFault, api.TrDivide} {
		enough(t, "effects of a kind", kinds[kind], 50)
	}
}

// TestP4_1ExecExamples checks the chapter's table of examples, and instructions whose registers are the stack pointer or one another.
func TestP4_1ExecExamples(t *testing.T) {
	fault := func(kind int, at int64) api.Trap {
		return api.Trap{Kind: api.TrFault, Fault: api.Fault{Kind: kind, At: at}}
	}
	for _, x := range []struct {
		line string
		r    api.Regs
		want api.Effect
	}{
		{"add r1, r2", regs(0, 1, 5, 2, -7), api.Effect{Regs: regs(2, 1, -2, 2, -7)}},
		{"push r1", regs(0, 1, 3, 7, 128), api.Effect{Regs: regs(2, 1, 3, 7, 120), At: 120, Data: []byte{3, 0, 0, 0, 0, 0, 0, 0}}},
		{"push r1", regs(0, 7, 64), api.Effect{Regs: regs(0, 7, 64), Trap: fault(api.FtWrite, 56)}},
		{"load8 r1, [r2+1]", regs(0, 2, 120), api.Effect{Regs: regs(0, 2, 120), Trap: fault(api.FtMap, 128)}},
		{"jump .-3", regs(10), api.Effect{Regs: regs(10)}},
		{"sys 3", regs(4), api.Effect{Regs: regs(6), Trap: api.Trap{Kind: api.TrSys, N: 3}}},
		{"nop", regs(math.MaxInt64), api.Effect{Regs: regs(math.MinInt64)}},
		{"push r7", regs(0, 7, 128), api.Effect{Regs: regs(2, 7, 120), At: 120, Data: []byte{128, 0, 0, 0, 0, 0, 0, 0}}},
		{"pop r7", regs(0, 7, 100), api.Effect{Regs: regs(2, 7, 9)}},
		{"callr r7", regs(8, 7, 120), api.Effect{Regs: regs(120, 7, 112), At: 112, Data: []byte{10, 0, 0, 0, 0, 0, 0, 0}}},
		{"swap r2, [r2]", regs(0, 2, 100), api.Effect{Regs: regs(2, 2, 9), At: 100, Data: []byte{100, 0, 0, 0, 0, 0, 0, 0}}},
		{"swap r1, [r2]", regs(0, 2, 10), api.Effect{Regs: regs(0, 2, 10), Trap: fault(api.FtRead, 10)}},
		{"ret", regs(0, 7, 100), api.Effect{Regs: regs(9, 7, 108)}},
		{"ret", regs(3, 7, 60), api.Effect{Regs: regs(3, 7, 60), Trap: fault(api.FtRead, 60)}},
		{"div r1, r1", regs(3), api.Effect{Regs: regs(3), Trap: api.Trap{Kind: api.TrDivide}}},
		{"load1 r1, [r2-1]", regs(0, 2, 102), api.Effect{Regs: regs(3, 2, 102)}},
		{"break", regs(70), api.Effect{Regs: regs(70), Trap: api.Trap{Kind: api.TrBreak}}},
	} {
		x.want.Insn = parsed(t, x.line)
		got, e := cpu.Exec(x.want.Insn, sample(100, 9), x.r)
		if e != api.OK || !equal(got, x.want) {
			t.Errorf("%s: %v, %d; want %v", x.line, got, e, x.want)
		}
	}
}

// TestP4_1ExecPermissions checks an instruction that reads and writes where only one of the two is permitted.
func TestP4_1ExecPermissions(t *testing.T) {
	s := filled(writable, readable, none)
	for _, x := range []struct {
		at   int64
		want api.Fault
	}{
		{0, api.Fault{}}, {56, api.Fault{}},
		{60, api.Fault{Kind: api.FtWrite, At: 64}}, {64, api.Fault{Kind: api.FtWrite, At: 64}}, {120, api.Fault{Kind: api.FtWrite, At: 120}},
		{121, api.Fault{Kind: api.FtRead, At: 128}}, {128, api.Fault{Kind: api.FtRead, At: 128}}, {-3, api.Fault{Kind: api.FtMap, At: -3}}, {189, api.Fault{Kind: api.FtRead, At: 189}},
	} {
		got, e := cpu.Exec(parsed(t, "swap r1, [r2]"), s, regs(0, 1, 77, 2, x.at))
		if e != api.OK || got.Trap.Fault != x.want || (got.Trap.Kind == api.TrFault) != (x.want != api.Fault{}) {
			t.Errorf("swap at %d: %v, %d; want %v", x.at, got, e, x.want)
		}
	}
}

func TestP4_1Step(t *testing.T) {
	source, kinds := random(), map[int]int{}
	for range 30000 {
		s := randomSpace(source)
		r := randomRegisters(source, s)
		r.Pc = randomCodeAddress(source, s)
		got, e := cpu.Step(s, r)
		if want := wantStep(s, r); e != api.OK || !equal(got, want) {
			t.Fatalf("Step at %v in pages %v, %v = %v, %d; want %v", r, s.Perm, s.Bytes, got, e, want)
		}
		kinds[got.Trap.Kind]++
	}
	for kind := api.TrNone; kind <= api.TrDivide; kind++ {
		enough(t, "steps of a kind", kinds[kind], 20)
	}
}

func TestP4_1StepExamples(t *testing.T) {
	fault := func(kind int, at int64) api.Trap {
		return api.Trap{Kind: api.TrFault, Fault: api.Fault{Kind: kind, At: at}}
	}
	long := []byte{131, 5, 1, 0, 0, 0, 0, 0, 0, 0, 0, 0}
	for _, x := range []struct {
		s    api.Space
		r    api.Regs
		want api.Effect
	}{
		{sample(0, 130, 10), regs(0, 2, 6), api.Effect{Regs: regs(2, 1, 6, 2, 6), Insn: api.Insn{Op: api.InMove, A: 1, B: 2}}},
		{sample(63, 130), regs(63), api.Effect{Regs: regs(63), Trap: fault(api.FtExec, 64)}},
		{sample(0, 5), regs(0), api.Effect{Regs: regs(0), Trap: api.Trap{Kind: api.TrIllegal}}},
		{sample(0, 130, 64), regs(0), api.Effect{Regs: regs(0), Trap: api.Trap{Kind: api.TrIllegal}}},
		{sample(0, 204), regs(0), api.Effect{Regs: regs(0), Trap: api.Trap{Kind: api.TrBreak}, Insn: api.Insn{Op: api.InBreak}}},
		{sample(52, long...), regs(52), api.Effect{Regs: regs(64, 5, 1), Insn: api.Insn{Op: api.InSet, A: 5, Imm: 1}}},
		{sample(53, long...), regs(53), api.Effect{Regs: regs(53), Trap: fault(api.FtExec, 64)}},
		{sample(63, 131, 5), regs(63), api.Effect{Regs: regs(63), Trap: fault(api.FtExec, 64)}},
		{sample(61, 131, 8), regs(61), api.Effect{Regs: regs(61), Trap: api.Trap{Kind: api.TrIllegal}}},
		{sample(64, 129), regs(64), api.Effect{Regs: regs(64), Trap: fault(api.FtExec, 64)}},
		{sample(0), regs(128), api.Effect{Regs: regs(128), Trap: fault(api.FtMap, 128)}},
		{sample(0), regs(-1), api.Effect{Regs: regs(-1), Trap: fault(api.FtMap, -1)}},
		{sample(0), regs(math.MaxInt64), api.Effect{Regs: regs(math.MaxInt64), Trap: fault(api.FtMap, math.MaxInt64)}},
		{api.Space{}, regs(0), api.Effect{Trap: fault(api.FtMap, 0)}},
	} {
		if got, e := cpu.Step(x.s, x.r); e != api.OK || !equal(got, x.want) {
			t.Errorf("Step at %d = %v, %d; want %v", x.r.Pc, got, e, x.want)
		}
	}
	// An instruction can reach from one code page into the next one, and end where the space ends.
	s := filled(code, code)
	copy(s.Bytes[58:], long)
	if got, e := cpu.Step(s, regs(58)); e != api.OK || !equal(got, api.Effect{Regs: regs(70, 5, 1), Insn: api.Insn{Op: api.InSet, A: 5, Imm: 1}}) {
		t.Errorf("Step across pages = %v, %d", got, e)
	}
	copy(s.Bytes[120:], long)
	if got, e := cpu.Step(s, regs(120)); e != api.OK || !equal(got, api.Effect{Regs: regs(120), Trap: fault(api.FtMap, 128)}) {
		t.Errorf("Step at the end of the space = %v, %d", got, e)
	}
}

func TestP4_1Apply(t *testing.T) {
	for _, s := range spaces() {
		for at := int64(-10); at < int64(len(s.Bytes))+10; at++ {
			for n := range 11 {
				effect := api.Effect{Regs: regs(5, 2, 6), At: at, Data: []byte{11, 12, 13, 14, 15, 16, 17, 18, 19, 20}[:n], Insn: api.Insn{Op: 999}}
				want, e := wantApply(s, effect)
				if got, g := cpu.Apply(s, effect); g != e || !equalSpaces(got, want) {
					t.Fatalf("Apply of %v to pages %v = %v, %d; want %v, %d", effect, s.Perm, got, g, want, e)
				}
			}
		}
	}
}

// wantApply returns what Apply returns for a valid space.
func wantApply(s api.Space, e api.Effect) (api.Space, api.Errno) {
	switch {
	case len(e.Data) > 8,
		wantFault(s, e.At, len(e.Data), api.FtWrite, writable) != api.Fault{},
		len(e.Data) == 0 && e.At != 0,
		len(e.Data) > 0 && e.Trap.Kind != api.TrNone:
		return api.Space{}, api.ErrEffect
	}
	return wantApplied(s, e), api.OK
}

func TestP4_1ApplyEdges(t *testing.T) {
	s := sample(64, 1, 2, 3, 4)
	for _, x := range []struct {
		effect api.Effect
		want   api.Errno
	}{
		{api.Effect{}, api.OK},
		{api.Effect{Data: []byte{}}, api.OK},
		{api.Effect{Trap: api.Trap{Kind: api.TrFault, Fault: api.Fault{Kind: 77, At: 3}}}, api.OK},
		{api.Effect{Trap: api.Trap{Kind: math.MinInt}}, api.OK},
		{api.Effect{At: 64}, api.ErrEffect},
		{api.Effect{At: -1}, api.ErrEffect},
		{api.Effect{At: math.MinInt64, Trap: api.Trap{Kind: api.TrSys}}, api.ErrEffect},
		{api.Effect{At: 64, Data: make([]byte, 8)}, api.OK},
		{api.Effect{At: 64, Data: make([]byte, 8), Trap: api.Trap{N: 3, Fault: api.Fault{Kind: 1, At: 2}}}, api.OK},
		{api.Effect{At: 64, Data: make([]byte, 9)}, api.ErrEffect},
		{api.Effect{At: 64, Data: make([]byte, 3000)}, api.ErrEffect},
		{api.Effect{At: 64, Data: []byte{1}, Trap: api.Trap{Kind: api.TrSys}}, api.ErrEffect},
		{api.Effect{At: 64, Data: []byte{1}, Trap: api.Trap{Kind: -1}}, api.ErrEffect},
		{api.Effect{At: 63, Data: []byte{1}}, api.ErrEffect},
		{api.Effect{At: 0, Data: []byte{1}}, api.ErrEffect},
		{api.Effect{At: 121, Data: make([]byte, 8)}, api.ErrEffect},
		{api.Effect{At: math.MaxInt64, Data: make([]byte, 8)}, api.ErrEffect},
		{api.Effect{At: math.MinInt64, Data: make([]byte, 1)}, api.ErrEffect},
		{api.Effect{At: 64 + 1<<32, Data: make([]byte, 1)}, api.ErrEffect},
	} {
		want := api.Space{}
		if x.want == api.OK {
			want = wantApplied(s, x.effect)
		}
		if got, e := cpu.Apply(s, x.effect); e != x.want || !equalSpaces(got, want) {
			t.Errorf("Apply of %v = %v, %d; want %v, %d", x.effect, got, e, want, x.want)
		}
	}
}

// wantRun executes instructions one by one.
func wantRun(s api.Space, r api.Regs, n int) (api.Space, api.Effect, int) {
	last := api.Effect{Regs: r}
	for done := range n {
		last = wantStep(s, last.Regs)
		if last.Trap != (api.Trap{}) {
			return s, last, done
		}
		s = wantApplied(s, last)
	}
	return s, last, n
}

func TestP4_1Run(t *testing.T) {
	source, stores, long, trapped := random(), 0, 0, 0
	for range 4000 {
		s := randomSpace(source)
		r := randomRegisters(source, s)
		r.Pc = randomCodeAddress(source, s)
		n := source.Intn(12)
		got, effect, done, e := cpu.Run(s, r, n)
		want, last, count := wantRun(s, r, n)
		if e != api.OK || done != count || !equal(effect, last) || !equalSpaces(got, want) {
			t.Fatalf("Run at %v, %d = %v, %v, %d, %d; want %v, %v, %d", r, n, got, effect, done, e, want, last, count)
		}
		if !equalSpaces(s, want) {
			stores++
		}
		if count > 4 {
			long++
		}
		if count < n {
			trapped++
		}
	}
	enough(t, "runs with stores", stores, 200)
	enough(t, "long runs", long, 100)
	enough(t, "runs with traps", trapped, 200)
}

// TestP4_1RunEnds checks runs of no instruction, of as many as possible, and up to each kind of trap.
func TestP4_1RunEnds(t *testing.T) {
	s := sample(0, assembled(t, "jump .-3")...)
	for _, n := range []int{0, 1, 1999, mostRuns} {
		want := api.Effect{Regs: regs(0, 3, 4)}
		if n > 0 {
			want.Insn = parsed(t, "jump .-3")
		}
		got, effect, done, e := cpu.Run(s, regs(0, 3, 4), n)
		if e != api.OK || done != n || !equal(effect, want) || !equalSpaces(got, s) {
			t.Errorf("Run of %d = %v, %v, %d, %d", n, got, effect, done, e)
		}
	}
	for _, x := range []struct {
		text string
		kind int
		pc   int64
	}{
		{"lit r1, 5\nstore1 [r7], r1\nsys 9", api.TrSys, 8}, {"lit r1, 5\nstore1 [r7], r1\nbreak", api.TrBreak, 6}, {"lit r1, 5\nstore1 [r7], r1\npop r0\npush r0\nstore1 [r0], r0", api.TrFault, 10},
		{"lit r1, 5\nstore1 [r7], r1\nmod r0, r0", api.TrDivide, 6}, {"lit r1, 5\nstore1 [r7], r1", api.TrIllegal, 6}, {"lit r1, 5\nstore1 [r7], r1\njump .+60", api.TrFault, 69},
	} {
		s := sample(0, assembled(t, x.text)...)
		got, effect, done, e := cpu.Run(s, regs(0, 7, 70), 100)
		want, last, count := wantRun(s, regs(0, 7, 70), 100)
		if e != api.OK || effect.Trap.Kind != x.kind || effect.Regs.Pc != x.pc || got.Bytes[70] != 5 || !equal(effect, last) || done != count || !equalSpaces(got, want) {
			t.Errorf("Run of %q = %v, %v, %d, %d; want %v, %v, %d", x.text, got, effect, done, e, want, last, count)
		}
	}
}

func numbers() []int64 {
	list := []int64{0, 1, -1, 2, -2, 3, -7, 31, 32, 33, 63, 64, 65, -63, -64, -65, 127, 128, 1000, 1 << 31, 1 << 32, 1<<32 + 1, -1 << 32, 1 << 62, -1 << 62, 0x123456789abcdef, -0x123456789abcdef, math.MaxInt64, math.MaxInt64 - 1, math.MinInt64, math.MinInt64 + 1}
	source := random()
	for range 40 {
		list = append(list, int64(source.Uint64())>>source.Intn(64))
	}
	return list
}

func TestP4_1Alu(t *testing.T) {
	for op := 5; op <= 15; op++ {
		for _, a := range numbers() {
			for _, b := range numbers() {
				v, is := wantAlu(op, a, b)
				if got := alu(op, a, b); got != (number{v, is, api.OK}) {
					t.Fatalf("Alu of %d, %d, %d = %v; want %d, %t", op, a, b, got, v, is)
				}
			}
		}
	}
	for _, op := range []int{api.InNop, api.InLit, api.InInc, api.InBreak, 0, -1, -5, 16, 34, 77, 128 + 5, 256 + 8, 1<<32 + 5, math.MaxInt, math.MinInt, math.MinInt + 5} {
		for _, b := range []int64{0, 1, -1} {
			if got := alu(op, 7, b); got != (number{e: api.ErrArg}) {
				t.Errorf("Alu of %d = %v; want ErrArg", op, got)
			}
		}
	}
}

func TestP4_1AluExamples(t *testing.T) {
	for _, x := range []struct {
		op         int
		a, b, want int64
	}{
		{api.InDiv, -7, 2, -3}, {api.InMod, -7, 2, -1}, {api.InMod, 7, -2, 1}, {api.InDiv, 7, -2, -3}, {api.InShr, -1, 65, math.MaxInt64}, {api.InSar, -1, 65, -1}, {api.InShl, 1, -1, math.MinInt64}, {api.InSar, -8, 64, -8},
		{api.InDiv, math.MinInt64, -1, math.MinInt64}, {api.InMod, math.MinInt64, -1, 0}, {api.InAdd, math.MaxInt64, 1, math.MinInt64}, {api.InSub, math.MinInt64, 1, math.MaxInt64}, {api.InMul, 1 << 62, 4, 0}, {api.InXor, -1, 5, -6},
	} {
		if got := alu(x.op, x.a, x.b); got != (number{x.want, true, api.OK}) {
			t.Errorf("Alu of %d, %d, %d = %v; want %d", x.op, x.a, x.b, got, x.want)
		}
	}
	for _, op := range []int{api.InDiv, api.InMod} {
		for _, a := range []int64{0, 1, math.MinInt64} {
			if got := alu(op, a, 0); got != (number{}) {
				t.Errorf("Alu of %d, %d, 0 = %v; want false", op, a, got)
			}
		}
	}
}

func TestP4_1Next(t *testing.T) {
	for _, x := range instructions() {
		for _, at := range []int64{0, 5, -1, math.MaxInt64, math.MaxInt64 - 5, math.MinInt64} {
			if got, e := cpu.Next(x, at); got != sum("a+l", map[byte]int64{'a': at, 'l': lengthOf(x)}) || e != api.OK {
				t.Fatalf("Next of %v at %d = %d, %d", x, at, got, e)
			}
		}
	}
	if got, e := cpu.Next(parsed(t, "set r1, 2"), 10); got != 22 || e != api.OK {
		t.Errorf("Next of set at 10 = %d, %d; want 22", got, e)
	}
}

func TestP4_1Taken(t *testing.T) {
	count := map[truth]int{}
	for _, r := range registersFor(sample(0)) {
		for _, x := range instructions() {
			want := truth{wantTaken(x, r), api.OK}
			if got := taken(x, r); got != want {
				t.Fatalf("Taken of %v with %v = %v; want %v", x, r, got, want)
			}
			count[want]++
		}
	}
	enough(t, "instructions that jump", count[truth{true, api.OK}], 100)
	r := regs(0, 1, math.MinInt64, 2, math.MaxInt64, 3, -1, 4, -1)
	for line, want := range map[string]bool{
		"beq r1, r2, .+1": false, "beq r3, r4, .+1": true, "bne r1, r2, .+1": true, "bne r3, r4, .+1": false,
		"blt r1, r2, .+1": true, "blt r2, r1, .+1": false, "blt r3, r4, .+1": false, "blt r3, r0, .+1": true, "bge r1, r2, .+1": false, "bge r2, r1, .+1": true, "bge r3, r4, .+1": true, "bge r0, r3, .+1": true,
		"jump .+0": true, "jumpr r1": true, "call .+0": true, "callr r1": true, "ret": true, "lea r1, .+1": false, "nop": false, "sys 1": false, "break": false,
	} {
		if got := taken(parsed(t, line), r); got != (truth{want, api.OK}) {
			t.Errorf("Taken of %s = %v; want %t", line, got, want)
		}
	}
}

func TestP4_1Footprint(t *testing.T) {
	for _, s := range spaces() {
		for _, r := range registersFor(s) {
			for _, x := range instructions() {
				got, e := cpu.Footprint(x, r)
				if want := wantFootprint(x, r); e != api.OK || !slices.Equal(got, want) {
					t.Fatalf("Footprint of %v with %v = %v, %d; want %v", x, r, got, e, want)
				}
			}
		}
	}
	r := regs(9, 1, 500, 2, 70, 7, math.MinInt64+3)
	for line, want := range map[string][]api.Access{
		"load1 r1, [r2+5]": {{At: 75, Size: 1}}, "load8 r1, [r2-5]": {{At: 65, Size: 8}},
		"store1 [r2+5], r1": {{At: 75, Size: 1, Write: true}}, "store8 [r2], r1": {{At: 70, Size: 8, Write: true}},
		"push r1": {{At: math.MaxInt64 - 4, Size: 8, Write: true}}, "call .+9": {{At: math.MaxInt64 - 4, Size: 8, Write: true}}, "callr r1": {{At: math.MaxInt64 - 4, Size: 8, Write: true}},
		"pop r1": {{At: math.MinInt64 + 3, Size: 8}}, "ret": {{At: math.MinInt64 + 3, Size: 8}},
		"swap r1, [r2]": {{At: 70, Size: 8}, {At: 70, Size: 8, Write: true}}, "add r1, r2": nil, "sys 3": nil,
	} {
		if got, e := cpu.Footprint(parsed(t, line), r); e != api.OK || !slices.Equal(got, want) {
			t.Errorf("Footprint of %s = %v, %d; want %v", line, got, e, want)
		}
	}
}

func TestP4_1Same(t *testing.T) {
	base := api.Effect{Regs: regs(5, 1, 2), At: 6, Data: []byte{7, 8}, Trap: api.Trap{Kind: 9, N: 10, Fault: api.Fault{Kind: 11, At: 12}}, Insn: api.Insn{Op: 13, A: 14, B: 15, Imm: 16}}
	list := []api.Effect{base, {}}
	vary := func(change func(e *api.Effect)) {
		other := base
		other.Data = slices.Clone(base.Data)
		change(&other)
		list = append(list, other)
	}
	for i := range 8 {
		vary(func(e *api.Effect) { e.Regs.R[i]++ })
	}
	vary(func(e *api.Effect) { e.Regs.Pc++ })
	vary(func(e *api.Effect) { e.At++ })
	vary(func(e *api.Effect) { e.Data[0]++ })
	vary(func(e *api.Effect) { e.Data[1]++ })
	vary(func(e *api.Effect) { e.Data = e.Data[:1] })
	vary(func(e *api.Effect) { e.Data = append(e.Data, 0) })
	vary(func(e *api.Effect) { e.Data = nil })
	vary(func(e *api.Effect) { e.Trap.Kind++ })
	vary(func(e *api.Effect) { e.Trap.N++ })
	vary(func(e *api.Effect) { e.Trap.Fault.Kind++ })
	vary(func(e *api.Effect) { e.Trap.Fault.At++ })
	vary(func(e *api.Effect) { e.Insn.Op++ })
	vary(func(e *api.Effect) { e.Insn.A++ })
	vary(func(e *api.Effect) { e.Insn.B++ })
	vary(func(e *api.Effect) { e.Insn.Imm++ })
	for i, a := range list {
		for j, b := range list {
			b.Data = slices.Clone(b.Data)
			if cpu.Same(a, b) != (i == j) {
				t.Errorf("Same of %v and %v = %t", a, b, i != j)
			}
		}
	}
	if !cpu.Same(api.Effect{At: 3}, api.Effect{At: 3, Data: []byte{}}) || !cpu.Same(api.Effect{Data: []byte{}}, api.Effect{}) {
		t.Error("Same tells no Data and empty Data apart")
	}
}

// regs returns registers with a Pc; each pair is a register and its value.
func regs(pc int64, pairs ...int64) api.Regs {
	r := api.Regs{Pc: pc}
	for i := 0; i+1 < len(pairs); i += 2 {
		r.R[pairs[i]] = pairs[i+1]
	}
	return r
}

// parsed returns the instruction of a line.
func parsed(t *testing.T, line string) api.Insn {
	t.Helper()
	x, e := insn.Parse(line)
	if e != api.OK {
		t.Fatalf("Parse of %q: %d", line, e)
	}
	return x
}

// assembled returns the code of a text at the address 0.
func assembled(t *testing.T, text string) []byte {
	t.Helper()
	b, _, _, e := insn.Assemble(text, 0)
	if e != api.OK {
		t.Fatalf("Assemble of %q: %d", text, e)
	}
	return b
}

// enough reports a test that tried too few of what it is about.
func enough(t *testing.T, what string, n, least int) {
	t.Helper()
	if n < least {
		t.Errorf("only %d %s", n, what)
	}
}

// TestSpacesAreValid checks what the other tests take for granted of their spaces.
func TestSpacesAreValid(t *testing.T) {
	source := random()
	for range 100 {
		if e := mem.Check(randomSpace(source)); e != api.OK {
			t.Fatalf("a random space has the error %d", e)
		}
	}
	for _, s := range spaces() {
		if e := mem.Check(s); e != api.OK {
			t.Errorf("pages %v have the error %d", s.Perm, e)
		}
	}
	for _, s := range invalidSpaces() {
		if e := mem.Check(s); e != api.ErrSpace {
			t.Errorf("pages %v with %d bytes have the error %d", s.Perm, len(s.Bytes), e)
		}
	}
}
