package patch_test

import (
	"math"
	"math/rand"
	"slices"
	"testing"

	"tapline/api"
	"tapline/cpu"
	"tapline/insn"
	"tapline/patch"
)

// plain returns the effect of the instruction of a thread in a space without breakpoints.
func plain(t *testing.T, s api.Space, r api.Regs) api.Effect {
	t.Helper()
	effect, e := cpu.Step(s, r)
	if e != api.OK {
		t.Fatalf("cpu.Step at %d has the error %d", r.Pc, e)
	}
	return effect
}

// checked fails unless a patched space is valid.
func checked(t *testing.T, p api.Patched) {
	t.Helper()
	if e := patch.Check(p); e != api.OK {
		t.Fatalf("Check of the result %v = %d", p, e)
	}
}

// slotsOf returns slots for an instruction: near it, far from it, at edges of its operand's range, and such that the slot or what follows it is where the instruction goes.
func slotsOf(source *rand.Rand, p api.Patched, r api.Regs) []int64 {
	list := []int64{r.Pc, r.Pc + 1, r.Pc - 1, randomSlot(source, r), randomSlot(source, r), math.MaxInt64, math.MinInt64}
	x, n, _ := wantStanding(wantClean(p), r.Pc)
	for _, edge := range []int64{0, 1, -1, 63, 64, -64, -65, 8191, 8192, -8192, -8193} {
		list = append(list, r.Pc+x.Imm-edge)
	}
	return append(list, r.R[x.A], r.R[x.A]-int64(n), r.R[x.A]-2)
}

func TestP7_2Transparency(t *testing.T) {
	t.Parallel()
	source, modes, traps, taken := random(), map[int]int{}, map[int]int{}, 0
	for range 900 {
		p := randomPatched(source)
		s := wantClean(p)
		for range 10 {
			r := randomRegisters(source, p)
			want := plain(t, s, r)
			for _, slot := range slotsOf(source, p, r) {
				got := step(p, r, slot)
				if got.e != api.OK || !equalEffects(got.effect, want) {
					t.Fatalf("Step of %v with %v, %d = %v; in the clean space it is %v", p, r, slot, got, want)
				}
				modes[got.mode]++
				traps[want.Trap.Kind]++
			}
			if is, _ := cpu.Taken(want.Insn, r); is && placeOf(p, r.Pc) >= 0 {
				taken++
			}
		}
	}
	for mode := api.PtNone; mode <= api.PtEmulate; mode++ {
		enough(t, "steps in a mode", modes[mode], 5000)
	}
	for kind := api.TrNone; kind <= api.TrDivide; kind++ {
		enough(t, "steps with a kind of trap", traps[kind], 200)
	}
	enough(t, "jumps of patched instructions", taken, 500)
}

// TestP7_2Returns checks ret, whose target is in memory, with slots near that target.
func TestP7_2Returns(t *testing.T) {
	s := api.Space{Perm: []int{code, writable}, Bytes: make([]byte, 2*pageSize)}
	copy(s.Bytes, assembled(t, "nop\nret\nnop", 0))
	for target := range int64(256) {
		s.Bytes[80] = byte(target)
		r := api.Regs{R: [8]int64{7: 80}, Pc: 1}
		for slot := int64(-3); slot < 260; slot++ {
			if got := step(with(s, 1, 1), r, slot); got.e != api.OK || !equalEffects(got.effect, plain(t, s, r)) {
				t.Fatalf("Step of ret to %d in %d = %v", target, slot, got)
			}
		}
	}
}

func TestP7_3OtherInstructions(t *testing.T) {
	t.Parallel()
	source, breaks, within, others := random(), 0, 0, 0
	for range 400 {
		p := randomPatched(source)
		s := clean(t, p)
		r := randomRegisters(source, p)
		for at := int64(-2); at < int64(len(s.Bytes)+2); at++ {
			r.Pc = at
			got, want := plain(t, p.Space, r), plain(t, s, r)
			if placeOf(p, at) >= 0 {
				breaks++
				if want := (api.Effect{Regs: r, Trap: api.Trap{Kind: api.TrBreak}, Insn: api.Insn{Op: api.InBreak}}); !equalEffects(got, want) {
					t.Fatalf("cpu.Step at the patched address %d = %v", at, got)
				}
				continue
			}
			if !equalEffects(got, want) {
				t.Fatalf("cpu.Step at %d = %v; in the clean space it is %v", at, got, want)
			}
			if step := step(p, r, randomSlot(source, r)); !equalEffects(step.effect, want) || step.mode != api.PtNone {
				t.Fatalf("Step at %d = %v; want %v", at, step, want)
			}
			others++
			if slices.ContainsFunc(p.L, func(x api.Patch) bool { return x.At < at && at < x.At+3 }) {
				within++
			}
		}
	}
	enough(t, "patched addresses", breaks, 3000)
	enough(t, "other addresses", others, 3000)
	enough(t, "addresses right behind a patched one", within, 3000)
}

func TestP7_4InstallAndRemove(t *testing.T) {
	t.Parallel()
	source, done, removed := random(), 0, 0
	for range 800 {
		p := randomPatched(source)
		s := clean(t, p)
		for range 12 {
			at := randomAddress(source, p)
			if in := install(p, at); in.e == api.OK {
				checked(t, in.p)
				if back := remove(in.p, at); !equalOutcomes(back, outcome{p: p}) {
					t.Fatalf("Remove behind Install at %d of %v = %v", at, p, back)
				}
				if got := clean(t, in.p); !equalSpaces(got, s) {
					t.Fatalf("Install at %d of %v has the clean space %v", at, p, got)
				}
				done++
			}
			if out := remove(p, at); out.e == api.OK {
				checked(t, out.p)
				if got := clean(t, out.p); !equalSpaces(got, s) {
					t.Fatalf("Remove at %d of %v has the clean space %v", at, p, got)
				}
				removed++
			}
		}
	}
	enough(t, "installed breakpoints", done, 2000)
	enough(t, "removed breakpoints", removed, 2000)
}

// both does one thing and then another one, unless the first one has an error.
func both(p api.Patched, a, b func(api.Patched) outcome) outcome {
	first := a(p)
	if first.e != api.OK {
		return first
	}
	return b(first.p)
}

func TestP7_4Commute(t *testing.T) {
	t.Parallel()
	source, commuted := random(), 0
	for range 1500 {
		p := randomPatched(source)
		for range 10 {
			one, other := randomAddress(source, p), randomAddress(source, p)
			if one == other {
				continue
			}
			do := []func(api.Patched, int64) outcome{install, remove}
			first, second := do[source.Intn(2)], do[source.Intn(2)]
			a := func(p api.Patched) outcome { return first(p, one) }
			b := func(p api.Patched) outcome { return second(p, other) }
			ab, ba := both(p, a, b), both(p, b, a)
			if ab.e != api.OK || ba.e != api.OK {
				continue
			}
			commuted++
			if !equal(ab.p, ba.p) {
				t.Fatalf("at %d and %d of %v: %v, but %v in the other order", one, other, p, ab.p, ba.p)
			}
		}
	}
	enough(t, "pairs that commute", commuted, 2000)
}

// programs are texts whose instructions stand at 0; the page at 256 is their stack, that at 320 their data.
var programs = []string{
	`	set r7, 320
		lit r0, 10
	loop: add r1, r0
		push r1
		call f
		pop r1
		inc r0, -1
		lit r2, 0
		bne r0, r2, loop
		lea r3, done
		jumpr r3
		nop
	done: sys 3
	f:	load8 r4, [r7+8]
		swap r4, [r7]
		swap r4, [r7]
		lea r5, g
		callr r5
		ret
	g:	store1 [r7-20], r0
		shl r6, r0
		ret`,
	`	set r1, 320
		lit r2, 40
	fill: store1 [r1+3], r2
		inc r1, 1
		inc r2, -1
		bge r2, r0, fill
		lit r3, 7
		set r4, 1000
	share: div r4, r3
		mul r5, r4
		xor r5, r1
		inc r3, -1
		blt r0, r3, share
		beq r0, r3, share
		break`,
	`	set r7, 320
		lit r0, 4
		call fact
		break
	fact: lit r2, 1
		beq r0, r2, one
		push r0
		inc r0, -1
		call fact
		pop r3
		mul r1, r3
		ret
	one: lit r1, 1
		ret
		break`,
}

// programSpace returns a space with the code of a program.
func programSpace(t *testing.T, text string) api.Space {
	t.Helper()
	s := api.Space{Perm: []int{code, code, code, code, writable, writable}, Bytes: make([]byte, 6*pageSize)}
	copy(s.Bytes, assembled(t, text, 0))
	return s
}

// meddle installs and removes breakpoints, some of them where a thread is.
func meddle(t *testing.T, source *rand.Rand, p api.Patched, pc int64) api.Patched {
	t.Helper()
	for range source.Intn(4) {
		at := pc
		if source.Intn(3) > 0 {
			at = int64(source.Intn(len(p.Space.Bytes)))
		}
		change := []func(api.Patched, int64) outcome{install, install, remove}[source.Intn(3)]
		if got := change(p, at); got.e == api.OK {
			p = got.p
		}
	}
	return p
}

// follow runs a thread in a patched space and in one without breakpoints up to the first trap, and returns how many instructions it executes, and how many of them are patched.
func follow(t *testing.T, source *rand.Rand, s api.Space, r api.Regs, most int) (int, int) {
	t.Helper()
	p, patched := api.Patched{Space: copiedSpace(s)}, 0
	for n := range most {
		p = meddle(t, source, p, r.Pc)
		want, got := plain(t, s, r), step(p, r, randomSlot(source, r))
		if got.e != api.OK || !equalEffects(got.effect, want) {
			t.Fatalf("instruction %d, at %v: %v; without breakpoints it is %v", n, r, got, want)
		}
		if got.mode != api.PtNone {
			patched++
		}
		if want.Trap.Kind != api.TrNone {
			return n, patched
		}
		next, e := cpu.Apply(s, want)
		applied := apply(p, got.effect)
		if e != api.OK || applied.e != api.OK || !equalSpaces(clean(t, applied.p), next) {
			t.Fatalf("instruction %d: the space is %v, %d; without breakpoints it is %v, %d", n, applied.p, applied.e, next, e)
		}
		p, s, r = applied.p, next, want.Regs
	}
	return most, patched
}

func TestP7_5Runs(t *testing.T) {
	t.Parallel()
	source, executed, patched := random(), 0, 0
	for i, text := range programs {
		for range 40 {
			n, m := follow(t, source, programSpace(t, text), api.Regs{}, 1000)
			if n < 30 || n == 1000 {
				t.Fatalf("program %d executes %d instructions", i, n)
			}
			executed, patched = executed+n, patched+m
		}
	}
	for range 1500 {
		p := randomPatched(source)
		n, m := follow(t, source, wantClean(p), randomRegisters(source, p), 30)
		executed, patched = executed+n, patched+m
	}
	enough(t, "instructions", executed, 10000)
	enough(t, "patched instructions", patched, 3000)
}

// TestP7_5RunsAlone checks runs of Step and Apply alone, in which the patches stay.
func TestP7_5RunsAlone(t *testing.T) {
	for i, text := range programs {
		s := programSpace(t, text)
		p := with(s, 3, places(s)...)
		end, last, n, e := cpu.Run(s, api.Regs{}, api.MaxPicks)
		if e != api.OK || last.Trap.Kind == api.TrNone {
			t.Fatalf("program %d: %v, %d", i, last, e)
		}
		r := api.Regs{}
		for m := 0; ; m++ {
			got := step(p, r, 2000)
			if got.e != api.OK || got.mode == api.PtNone || m > n {
				t.Fatalf("program %d, instruction %d: %v", i, m, got)
			}
			if got.effect.Trap.Kind != api.TrNone {
				if m != n || !equalEffects(got.effect, last) || !equalSpaces(clean(t, p), end) {
					t.Fatalf("program %d ends behind %d instructions with %v; want %d, %v", i, m, got, n, last)
				}
				break
			}
			r, p = got.effect.Regs, apply(p, got.effect).p
		}
	}
}

func exec(t *testing.T, x api.Insn, s api.Space, r api.Regs) api.Effect {
	t.Helper()
	effect, e := cpu.Exec(x, s, r)
	if e != api.OK {
		t.Fatalf("Exec of %v has the error %d", x, e)
	}
	return effect
}

func TestP7_6Displacement(t *testing.T) {
	t.Parallel()
	source, modes, stores := random(), map[[2]int]int{}, 0
	p := api.Patched{}
	for i := range 60000 {
		if i%20 == 0 {
			p = api.Patched{Space: randomSpace(source)}
		}
		x, from := randomInstruction(source), randomRegisters(source, p)
		to := from
		to.Pc = randomSlot(source, from)
		d := displace(x, from.Pc, to.Pc)
		modes[[2]int{x.Op, d.mode}]++
		if d.mode == api.PtEmulate {
			continue
		}
		want, got := exec(t, x, p.Space, from), exec(t, d.x, p.Space, to)
		n, _ := insn.Len(x)
		if m, _ := insn.Len(d.x); m != n || d.x.Op != x.Op {
			t.Fatalf("Displace of %v = %v", x, d)
		}
		moved := want.Regs
		if want.Trap.Kind != api.TrNone {
			moved.Pc = to.Pc
		} else if is, _ := cpu.Taken(x, from); !is {
			moved.Pc = after(to.Pc, n)
		}
		if got.Regs != moved || got.At != want.At || !slices.Equal(got.Data, want.Data) || got.Trap != want.Trap {
			t.Fatalf("%v at %d: %v; %v at %d: %v", x, from.Pc, want, d.x, to.Pc, got)
		}
		if len(want.Data) > 0 {
			stores++
		}
	}
	for _, op := range operations() {
		d := wantDisplaced(api.Insn{Op: op, Imm: 1}, 0, 0)
		enough(t, "instructions of an operation in its mode", modes[[2]int{op, d.mode}], 100)
	}
	enough(t, "stores", stores, 1000)
}

func TestP7_7OtherSpaces(t *testing.T) {
	t.Parallel()
	source, moved := random(), 0
	for range 2500 {
		p := randomPatched(source)
		own := clean(t, p)
		if got := rebase(p, own); !equalOutcomes(got, outcome{p: p}) {
			t.Fatalf("Rebase of %v to its own clean space = %v", p, got)
		}
		other := copiedSpace(own)
		for range 1 + source.Intn(3) {
			other.Bytes[source.Intn(len(other.Bytes))] = byte(source.Intn(256))
		}
		for _, s := range []api.Space{other, randomSpace(source), nops(5)} {
			got := rebase(p, s)
			if got.e != api.OK {
				continue
			}
			checked(t, got.p)
			if c := clean(t, got.p); !equalSpaces(c, s) {
				t.Fatalf("the clean space of Rebase(%v, %v) is %v", p, s, c)
			}
			for i, x := range got.p.L {
				if x.At != p.L[i].At || x.N != p.L[i].N {
					t.Fatalf("Rebase of %v has the patches %v", p, got.p.L)
				}
			}
			if back := rebase(got.p, own); !equalOutcomes(back, outcome{p: p}) {
				t.Fatalf("Rebase of %v there and back = %v", p, back)
			}
			moved += len(got.p.L)
		}
	}
	enough(t, "breakpoints in other spaces", moved, 5000)
}

func TestP7_8Stores(t *testing.T) {
	t.Parallel()
	source, errors := random(), map[api.Errno]int{}
	for range 2500 {
		p := randomPatched(source)
		s := clean(t, p)
		for range 8 {
			x := randomEffect(source, p)
			want, e := cpu.Apply(s, x)
			got := apply(p, x)
			if got.e != e {
				t.Fatalf("Apply of %v to %v has the error %d; in the clean space %d", x, p, got.e, e)
			}
			errors[e]++
			if e != api.OK {
				continue
			}
			checked(t, got.p)
			if c := clean(t, got.p); !equalSpaces(c, want) || !slices.Equal(got.p.L, p.L) {
				t.Fatalf("Apply of %v to %v = %v; the clean space was to be %v", x, p, got.p, want)
			}
		}
	}
	enough(t, "effects that are applied", errors[api.OK], 3000)
	enough(t, "effects that are refused", errors[api.ErrEffect], 3000)
}
