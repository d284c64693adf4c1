package cpu_test

import (
	"math/rand"
	"slices"
	"testing"

	"tapline/api"
	"tapline/cpu"
	"tapline/insn"
	"tapline/mem"
)

func exec(t *testing.T, x api.Insn, s api.Space, r api.Regs) api.Effect {
	t.Helper()
	effect, e := cpu.Exec(x, s, r)
	if e != api.OK {
		t.Fatalf("Exec of %v has the error %d", x, e)
	}
	return effect
}

func step(t *testing.T, s api.Space, r api.Regs) api.Effect {
	t.Helper()
	effect, e := cpu.Step(s, r)
	if e != api.OK {
		t.Fatalf("Step at %d has the error %d", r.Pc, e)
	}
	return effect
}

func apply(t *testing.T, s api.Space, effect api.Effect) api.Space {
	t.Helper()
	changed, e := cpu.Apply(s, effect)
	if e != api.OK {
		t.Fatalf("Apply of %v has the error %d", effect, e)
	}
	return changed
}

func footprint(t *testing.T, x api.Insn, r api.Regs) []api.Access {
	t.Helper()
	list, e := cpu.Footprint(x, r)
	if e != api.OK {
		t.Fatalf("Footprint of %v has the error %d", x, e)
	}
	return list
}

func next(t *testing.T, x api.Insn, at int64) int64 {
	t.Helper()
	v, e := cpu.Next(x, at)
	if e != api.OK {
		t.Fatalf("Next of %v has the error %d", x, e)
	}
	return v
}

// randomState returns an instruction, a space and registers.
func randomState(source *rand.Rand) (api.Insn, api.Space, api.Regs) {
	s := randomSpace(source)
	return randomInstruction(source), s, randomRegisters(source, s)
}

func TestP4_2Frame(t *testing.T) {
	source, stores, traps := random(), 0, 0
	for range 40000 {
		x, s, r := randomState(source)
		effect := exec(t, x, s, r)
		for i := range r.R {
			if effect.Regs.R[i] != r.R[i] && !slices.Contains(insn.Writes(x), i) {
				t.Fatalf("%v changes the register %d of %v: %v", x, i, r, effect)
			}
		}
		switch effect.Trap.Kind {
		case api.TrNone:
		case api.TrSys:
			if effect.Regs.R != r.R || len(effect.Data) != 0 {
				t.Fatalf("the system call %v with %v: %v", x, r, effect)
			}
		default:
			traps++
			if effect.Regs != r || len(effect.Data) != 0 {
				t.Fatalf("the trap of %v with %v: %v", x, r, effect)
			}
		}
		if len(effect.Data) == 0 {
			continue
		}
		stores++
		within := func(a api.Access) bool {
			return a.Write && a.At <= effect.At && effect.At+int64(len(effect.Data)) <= a.At+int64(a.Size)
		}
		if !slices.ContainsFunc(footprint(t, x, r), within) {
			t.Fatalf("%v with %v stores outside of its footprint: %v", x, r, effect)
		}
	}
	enough(t, "stores", stores, 1000)
	enough(t, "traps", traps, 1000)
}

// another returns registers and a space with which an instruction has to do the same: those that it reads are equal.
func another(t *testing.T, source *rand.Rand, x api.Insn, s api.Space, r api.Regs) (api.Space, api.Regs) {
	t.Helper()
	q := randomRegisters(source, s)
	q.Pc = r.Pc
	for _, i := range insn.Reads(x) {
		q.R[i] = r.R[i]
	}
	other := copied(s)
	for i := range other.Bytes {
		other.Bytes[i] = byte(source.Intn(256))
	}
	for _, a := range footprint(t, x, r) {
		for at := a.At; !a.Write && at < a.At+int64(a.Size); at++ {
			if 0 <= at && at < int64(len(s.Bytes)) {
				other.Bytes[at] = s.Bytes[at]
			}
		}
	}
	return other, q
}

func TestP4_3Dependence(t *testing.T) {
	source, reads, stores := random(), 0, 0
	for range 40000 {
		x, s, r := randomState(source)
		other, q := another(t, source, x, s, r)
		a, b := exec(t, x, s, r), exec(t, x, other, q)
		if a.Trap != b.Trap || a.At != b.At || !slices.Equal(a.Data, b.Data) || a.Regs.Pc != b.Regs.Pc {
			t.Fatalf("%v with %v: %v; with %v: %v", x, r, a, q, b)
		}
		if a.Trap.Kind != api.TrNone {
			continue
		}
		for _, i := range insn.Writes(x) {
			if a.Regs.R[i] != b.Regs.R[i] {
				t.Fatalf("%v with %v: %v; with %v: %v", x, r, a, q, b)
			}
		}
		if x.Op == api.InLoad8 {
			reads++
		}
		if len(a.Data) > 0 {
			stores++
		}
	}
	enough(t, "loads", reads, 200)
	enough(t, "stores", stores, 1000)
}

// TestP4_4Position takes what is said of instructions that are taken as said of those without a trap: with one (of a ret), Pc stays that of the instruction.
func TestP4_4Position(t *testing.T) {
	source, jumps, moved := random(), 0, 0
	for range 40000 {
		x, s, r := randomState(source)
		if insn.Relative(x) {
			continue
		}
		q := r
		q.Pc = randomRegister(source, s)
		a, b := exec(t, x, s, r), exec(t, x, s, q)
		want := a
		want.Regs.Pc = a.Regs.Pc + q.Pc - r.Pc
		if taken(x, r).is && a.Trap.Kind == api.TrNone {
			want.Regs.Pc = a.Regs.Pc
			jumps++
		} else {
			moved++
		}
		if !equal(b, want) {
			t.Fatalf("%v with %v: %v; with %v: %v", x, r, a, q, b)
		}
	}
	enough(t, "jumps", jumps, 500)
	enough(t, "instructions that moved", moved, 5000)
}

func TestP4_5Branches(t *testing.T) {
	source, jumps, others := random(), 0, 0
	for range 60000 {
		x, s, r := randomState(source)
		behind := next(t, x, r.Pc)
		target, has := insn.Target(x, behind)
		effect := exec(t, x, s, r)
		if !has || effect.Trap.Kind != api.TrNone {
			continue
		}
		want := behind
		if taken(x, r).is {
			want = target
			jumps++
		} else {
			others++
		}
		if effect.Regs.Pc != want {
			t.Fatalf("behind %v with %v Pc is %d; want %d", x, r, effect.Regs.Pc, want)
		}
	}
	enough(t, "instructions that jump", jumps, 500)
	enough(t, "instructions that do not jump", others, 500)
}

// twice executes two instructions, and returns the space and the registers behind them; false, if one has a trap.
func twice(t *testing.T, s api.Space, r api.Regs, x, y api.Insn) (api.Space, api.Regs, bool) {
	t.Helper()
	a := exec(t, x, s, r)
	if a.Trap.Kind != api.TrNone {
		return s, r, false
	}
	s = apply(t, s, a)
	b := exec(t, y, s, a.Regs)
	if b.Trap.Kind != api.TrNone {
		return s, r, false
	}
	return apply(t, s, b), b.Regs, true
}

func TestP4_6PushPop(t *testing.T) {
	source, n := random(), 0
	for range 3000 {
		_, s, r := randomState(source)
		from, to := source.Intn(7), source.Intn(7)
		_, q, done := twice(t, s, r, api.Insn{Op: api.InPush, A: from}, api.Insn{Op: api.InPop, A: to})
		if !done || from == to {
			continue
		}
		n++
		want := r
		want.R[to] = r.R[from]
		if q.R != want.R {
			t.Fatalf("push of %d and pop of %d: %v becomes %v", from, to, r, q)
		}
	}
	enough(t, "pushes and pops", n, 300)
}

func TestP4_6CallRet(t *testing.T) {
	source, n := random(), 0
	for range 3000 {
		_, s, r := randomState(source)
		x := api.Insn{Op: api.InCall, Imm: int64(source.Intn(16384) - 8192)}
		_, q, done := twice(t, s, r, x, api.Insn{Op: api.InRet})
		if !done {
			continue
		}
		n++
		want := r
		want.Pc = next(t, x, r.Pc)
		if q != want {
			t.Fatalf("%v and ret: %v becomes %v", x, r, q)
		}
	}
	enough(t, "calls and returns", n, 300)
}

func TestP4_6SwapTwice(t *testing.T) {
	source, n := random(), 0
	for range 3000 {
		_, s, r := randomState(source)
		x := api.Insn{Op: api.InSwap, A: source.Intn(8), B: source.Intn(8)}
		behind, q, done := twice(t, s, r, x, x)
		if !done || x.A == x.B {
			continue
		}
		n++
		if q.R != r.R || !equalSpaces(behind, s) {
			t.Fatalf("%v twice: %v becomes %v", x, r, q)
		}
	}
	enough(t, "swaps", n, 300)
}

func run(t *testing.T, s api.Space, r api.Regs, n int) (api.Space, api.Effect, int) {
	t.Helper()
	behind, effect, done, e := cpu.Run(s, r, n)
	if e != api.OK {
		t.Fatalf("Run of %d has the error %d", n, e)
	}
	return behind, effect, done
}

func TestP4_7Runs(t *testing.T) {
	source, goOn := random(), 0
	for range 6000 {
		_, s, r := randomState(source)
		r.Pc = randomCodeAddress(source, s)
		n, m := source.Intn(8), source.Intn(8)
		want, effect, done := run(t, s, r, n)
		if effect.Trap.Kind == api.TrNone {
			last, first := effect, done
			want, effect, done = run(t, want, last.Regs, m)
			if m == 0 {
				// A run of no instruction tells nothing of an effect but its registers.
				effect = last
			}
			done += first
			if first > 0 && m > 0 {
				goOn++
			}
		}
		got, whole, all := run(t, s, r, n+m)
		if !equalSpaces(got, want) || !equal(whole, effect) || all != done {
			t.Fatalf("Run of %d + %d = %v, %d; want %v, %d", n, m, whole, all, effect, done)
		}
	}
	enough(t, "runs that go on", goOn, 500)
}

// TestP4_7LongRuns checks a program that runs as long as a run can.
func TestP4_7LongRuns(t *testing.T) {
	s := sample(0, assembled(t, "l: inc r1, 1\nadd r2, r1\npush r2\npop r3\ncall f\njump l\nf: store8 [r4], r2\nload1 r5, [r4]\nret")...)
	r := regs(0, 4, 70, 7, 128)
	want, effect, done := run(t, s, r, mostRuns)
	if done != mostRuns || effect.Trap.Kind != api.TrNone || effect.Regs.R[1] < 200 {
		t.Fatalf("Run of %d = %v, %d", mostRuns, effect, done)
	}
	for _, n := range []int{1, 2, 999, 1000, 1234, 1998, 1999} {
		behind, first, a := run(t, s, r, n)
		got, last, b := run(t, behind, first.Regs, mostRuns-n)
		if a+b != mostRuns || !equal(last, effect) || !equalSpaces(got, want) {
			t.Errorf("Run of %d and then of the rest = %v, %d; want %v", n, last, a+b, effect)
		}
	}
}

func TestP4_8Breakpoints(t *testing.T) {
	source, kinds := random(), map[int]int{}
	for range 1500 {
		_, s, r := randomState(source)
		r.Pc = randomCodeAddress(source, s)
		before := step(t, s, r)
		b, e := mem.Fetch(s, r.Pc, 12)
		if e != api.OK {
			t.Fatalf("Fetch at %d has the error %d", r.Pc, e)
		}
		_, n, e := insn.Decode(b)
		switch e {
		case api.ErrShort:
			n = len(b)
		case api.ErrInsn:
			n = 1
		}
		for at := range s.Bytes {
			if s.Perm[at/pageSize] != code {
				continue
			}
			patched := copied(s)
			patched.Bytes[at] = 204
			got := step(t, patched, r)
			switch {
			case int64(at) == r.Pc:
				if want := (api.Effect{Regs: r, Trap: api.Trap{Kind: api.TrBreak}, Insn: api.Insn{Op: api.InBreak}}); !equal(got, want) {
					t.Fatalf("Step at a breakpoint at %d = %v", at, got)
				}
			case int64(at) < r.Pc || int64(at) >= r.Pc+int64(n):
				kinds[before.Trap.Kind]++
				if !equal(got, before) {
					t.Fatalf("a breakpoint at %d changes Step at %d from %v to %v", at, r.Pc, before, got)
				}
			}
		}
	}
	for _, kind := range []int{api.TrNone, api.TrFault, api.TrIllegal, api.TrBreak, api.TrSys} {
		enough(t, "breakpoints beside a kind of effects", kinds[kind], 200)
	}
}

func TestP4_9Stores(t *testing.T) {
	source, stores := random(), 0
	for range 20000 {
		x, s, r := randomState(source)
		r.Pc = randomCodeAddress(source, s)
		for _, effect := range []api.Effect{exec(t, x, s, r), step(t, s, r)} {
			changed := apply(t, s, effect)
			if !slices.Equal(changed.Perm, s.Perm) || len(changed.Bytes) != len(s.Bytes) {
				t.Fatalf("Apply of %v changes the pages %v to %v", effect, s.Perm, changed.Perm)
			}
			for i := range s.Bytes {
				want := s.Bytes[i]
				if k := int64(i) - effect.At; len(effect.Data) > 0 && 0 <= k && k < int64(len(effect.Data)) {
					want = effect.Data[k]
				}
				if changed.Bytes[i] != want {
					t.Fatalf("Apply of %v: the byte at %d is %d; want %d", effect, i, changed.Bytes[i], want)
				}
			}
			if len(effect.Data) > 0 {
				stores++
			}
		}
	}
	enough(t, "stores", stores, 1000)
}

func TestP4_10Decoding(t *testing.T) {
	source, n := random(), 0
	for range 20000 {
		_, s, r := randomState(source)
		r.Pc = randomCodeAddress(source, s)
		b, e := mem.Fetch(s, r.Pc, 12)
		if e != api.OK {
			t.Fatalf("Fetch at %d has the error %d", r.Pc, e)
		}
		got := step(t, s, r)
		x, _, e := insn.Decode(b)
		if e != api.OK {
			if got.Insn != (api.Insn{}) || got.Trap.Kind != api.TrFault && got.Trap.Kind != api.TrIllegal {
				t.Fatalf("Step at %v, where there is no instruction, = %v", b, got)
			}
			continue
		}
		n++
		if want := exec(t, x, s, r); !equal(got, want) {
			t.Fatalf("Step at %v = %v; Exec: %v", b, got, want)
		}
	}
	enough(t, "instructions", n, 5000)
}
