package patch_test

import (
	"math"
	"slices"
	"testing"

	"tapline/api"
	"tapline/insn"
	"tapline/patch"
)

// P7.1: all functions behave as the chapter describes them.

// TestP7_1Examples checks the chapter's table of examples.
func TestP7_1Examples(t *testing.T) {
	p := api.Patched{Space: sample(t)}
	once := install(p, 0)
	if want := with(sample(t), 1, 0); !equalOutcomes(once, outcome{p: want}) || want.L[0] != (api.Patch{At: 0, Old: 144, N: 1}) || want.Space.Bytes[0] != 204 {
		t.Errorf("Install at 0 = %v; want %v", once, want)
	}
	if got := install(p, 1); !equalOutcomes(got, outcome{e: api.ErrCode}) {
		t.Errorf("Install at 1 = %v; want ErrCode", got)
	}
	twice := install(once.p, 0)
	for i, want := range []api.Patched{with(sample(t), 2, 0), with(sample(t), 1, 0), p} {
		if !equalOutcomes(twice, outcome{p: want}) {
			t.Errorf("Install twice, Remove %d times = %v; want %v", i, twice, want)
		}
		twice = remove(twice.p, 0)
	}
	for _, x := range []struct {
		line     string
		from, to int64
		want     string
		mode     int
	}{
		{"jump .-6", 3, 100, "jump .-103", api.PtFix},
		{"beq r0, r1, .+5", 0, 5, "beq r0, r1, .+5", api.PtEmulate},
		{"beq r0, r1, .+5", 0, 100, "beq r0, r1, .+5", api.PtEmulate},
		{"call .+10", 6, 100, "call .+10", api.PtEmulate},
		{"move r1, r2", 6, 100, "move r1, r2", api.PtCopy},
	} {
		if got := displace(parsed(t, x.line), x.from, x.to); got != (displacement{parsed(t, x.want), x.mode, api.OK}) {
			t.Errorf("Displace(%s, %d, %d) = %v; want %s, %d", x.line, x.from, x.to, got, x.want, x.mode)
		}
	}
	four := api.Regs{R: [8]int64{4}}
	want := stepped{api.Effect{Regs: api.Regs{R: [8]int64{5}, Pc: 3}, Insn: parsed(t, "inc r0, 1")}, api.PtCopy, api.OK}
	if got := step(with(sample(t), 1, 0), four, 1000); !equalSteps(got, want) {
		t.Errorf("Step at 0 = %v; want %v", got, want)
	}
	want = stepped{api.Effect{Insn: parsed(t, "jump .-6")}, api.PtFix, api.OK}
	if got := step(with(sample(t), 1, 3), api.Regs{Pc: 3}, 1000); !equalSteps(got, want) {
		t.Errorf("Step at 3 = %v; want %v", got, want)
	}
}

// TestP7_1Small checks the functions with an address for all patched spaces with the examples' code, and all addresses.
func TestP7_1Small(t *testing.T) {
	addresses := slices.Clone(far)
	for at := range int64(2 * pageSize) {
		addresses = append(addresses, at)
	}
	for _, list := range [][]int64{{}, {0}, {3}, {6}, {0, 3}, {0, 6}, {3, 6}, {0, 3, 6}} {
		for _, n := range []int{1, 2, 7, mostN - 1, mostN} {
			p := with(sample(t), n, list...)
			if e := patch.Check(p); e != api.OK {
				t.Fatalf("Check of %v = %d", p, e)
			}
			if got := clean(t, p); !equalSpaces(got, sample(t)) {
				t.Fatalf("Clean of %v = %v", p, got)
			}
			for _, at := range addresses {
				compareAt(t, p, at)
			}
		}
	}
}

// compareAt compares the functions with an address with what they are to return.
func compareAt(t *testing.T, p api.Patched, at int64) {
	t.Helper()
	if got, want := install(p, at), wantInstalled(p, at); !equalOutcomes(got, want) {
		t.Fatalf("Install of %v at %d = %v; want %v", p, at, got, want)
	}
	if got, want := remove(p, at), wantRemoved(p, at); !equalOutcomes(got, want) {
		t.Fatalf("Remove of %v at %d = %v; want %v", p, at, got, want)
	}
	if got, want := originalOf(p, at), wantOriginal(p, at); got != want {
		t.Fatalf("Original of %v at %d = %v; want %v", p, at, got, want)
	}
	want := place{}
	if i := placeOf(p, at); i >= 0 {
		want = place{i, true}
	}
	if got := find(p, at); got != want {
		t.Fatalf("Find in %v at %d = %v; want %v", p, at, got, want)
	}
}

func TestP7_1Random(t *testing.T) {
	t.Parallel()
	source, patched := random(), 0
	for range 600 {
		p := randomPatched(source)
		if e := patch.Check(p); e != api.OK {
			t.Fatalf("Check of %v = %d", p, e)
		}
		if got, want := clean(t, p), wantClean(p); !equalSpaces(got, want) {
			t.Fatalf("Clean of %v = %v; want %v", p, got, want)
		}
		for _, x := range p.L {
			compareAt(t, p, x.At)
			patched++
		}
		for range 20 {
			compareAt(t, p, randomAddress(source, p))
		}
	}
	enough(t, "patches", patched, 5000)
}

// TestP7_1Full checks the space with the most patches.
func TestP7_1Full(t *testing.T) {
	p := full()
	for at := int64(-2); at < 200; at++ {
		compareAt(t, p, at)
	}
	if got := install(p, 0); !equalOutcomes(got, outcome{e: api.ErrLong}) {
		t.Errorf("Install of one patch too many = %v; want ErrLong", got.e)
	}
	if got := install(p, 1); got.e != api.OK || got.p.L[0].N != 2 {
		t.Errorf("Install at a patched address of a full list = %v, %d", got.p.L[:1], got.e)
	}
	fewer := remove(p, 127)
	if got := install(fewer.p, 0); got.e != api.OK || len(got.p.L) != mostPatches || got.p.L[0] != (api.Patch{Old: 128 + api.InNop, N: 1}) {
		t.Errorf("Install of the last patch = %v, %d", got.p.L, got.e)
	}
}

// TestP7_1Breaks checks patches of InBreak instructions, whose byte stays, and of what follows them.
func TestP7_1Breaks(t *testing.T) {
	s := nops(1)
	s.Bytes[5], s.Bytes[6], s.Bytes[8] = breakByte, breakByte, breakByte
	for _, list := range [][]int64{{}, {5}, {6}, {5, 6}, {4, 5, 8}} {
		p := with(s, 1, list...)
		for at := range int64(12) {
			compareAt(t, p, at)
		}
	}
	if got := install(api.Patched{Space: s}, 5); got.e != api.OK || !equalSpaces(got.p.Space, s) || !slices.Equal(got.p.L, []api.Patch{{At: 5, Old: breakByte, N: 1}}) {
		t.Errorf("Install at a break = %v", got)
	}
	want := stepped{api.Effect{Regs: api.Regs{Pc: 5}, Trap: api.Trap{Kind: api.TrBreak}, Insn: api.Insn{Op: api.InBreak}}, api.PtEmulate, api.OK}
	if got := step(with(s, 1, 5), api.Regs{Pc: 5}, 9); !equalSteps(got, want) {
		t.Errorf("Step of a patched break = %v; want %v", got, want)
	}
	want.mode = api.PtNone
	if got := step(with(s, 1, 6), api.Regs{Pc: 5}, 9); !equalSteps(got, want) {
		t.Errorf("Step of a break that is not patched = %v; want %v", got, want)
	}
}

// TestP7_1Edges checks instructions at the ends of code pages, of the space, and of the 12 bytes of the longest one.
func TestP7_1Edges(t *testing.T) {
	long := assembled(t, "set r5, -1", 0)
	if len(long) != 12 {
		t.Fatalf("the longest instruction has %d bytes", len(long))
	}
	for _, perms := range [][]int{{code}, {code, code}, {code, writable}, {code, readable, code}, {none, code}, {code, none, code, code}} {
		for at := range int64(pageSize*len(perms) - 12 + 1) {
			s := api.Space{Perm: perms, Bytes: make([]byte, pageSize*len(perms))}
			copy(s.Bytes[at:], long)
			for near := at - 2; near < at+14; near++ {
				compareAt(t, api.Patched{Space: s}, near)
			}
			if _, _, stands := wantStanding(s, at); stands {
				compareAt(t, with(s, 3, at), at)
			}
		}
		// One that is cut off by the end of the space.
		s := api.Space{Perm: perms, Bytes: make([]byte, pageSize*len(perms))}
		copy(s.Bytes[len(s.Bytes)-11:], long)
		compareAt(t, api.Patched{Space: s}, int64(len(s.Bytes)-11))
	}
}

// displaceable returns well-formed instructions: of each operation, with various operands.
func displaceable() []api.Insn {
	var list []api.Insn
	for _, op := range operations() {
		for _, imm := range []int64{0, 1, -1, 5, -6, 63, -64, 100, -100, 127, 8191, -8192, math.MaxInt64, math.MinInt64} {
			for _, registers := range [][2]int{{0, 0}, {0, 3}, {5, 0}, {7, 7}, {2, 6}} {
				x := api.Insn{Op: op, A: registers[0], B: registers[1], Imm: imm}
				if insn.Check(x) == api.OK {
					list = append(list, x)
				}
			}
		}
	}
	return list
}

// TestP7_1Displace checks distances with which the Imm of the moved instruction is near an edge, at various addresses, also where they wrap around.
func TestP7_1Displace(t *testing.T) {
	modes := map[[2]int]int{}
	for _, x := range displaceable() {
		for _, from := range []int64{0, 3, 100, 2047, -5, 1 << 40, math.MaxInt64, math.MaxInt64 - 4, math.MinInt64, math.MinInt64 + 60} {
			for _, edge := range []int64{0, 1, -1, 62, 63, 64, 65, -63, -64, -65, -66, 8190, 8191, 8192, 8193, -8191, -8192, -8193, -8194, 1 << 31, 1 << 32, -1 << 32, math.MaxInt64, math.MinInt64, x.Imm, x.Imm + 5} {
				to := from + x.Imm - edge
				got := displace(x, from, to)
				if want := wantDisplaced(x, from, to); got != want {
					t.Fatalf("Displace(%v, %d, %d) = %v; want %v", x, from, to, got, want)
				}
				modes[[2]int{x.Op, got.mode}]++
			}
		}
	}
	for _, op := range operations() {
		switch {
		case reach(op) != 0:
			enough(t, "instructions that are fixed", modes[[2]int{op, api.PtFix}], 100)
			enough(t, "instructions that are too far", modes[[2]int{op, api.PtEmulate}], 100)
		case slices.Contains([]int{api.InCall, api.InCallR, api.InSys, api.InBreak}, op):
			enough(t, "instructions that are emulated", modes[[2]int{op, api.PtEmulate}], 100)
		default:
			enough(t, "instructions that are copied", modes[[2]int{op, api.PtCopy}], 100)
		}
	}
}

// TestP7_1DisplaceAll checks all distances near the edges for one instruction of each operation with a target.
func TestP7_1DisplaceAll(t *testing.T) {
	for _, line := range []string{"beq r1, r2, .+3", "bne r1, r2, .-3", "blt r1, r2, .+63", "bge r1, r2, .-64", "jump .+0", "jump .+8191", "jump .-8192", "lea r3, .+0", "lea r3, .+77"} {
		x := parsed(t, line)
		for to := int64(-17000); to <= 17000; to++ {
			if got, want := displace(x, 7, to), wantDisplaced(x, 7, to); got != want {
				t.Fatalf("Displace(%s, 7, %d) = %v; want %v", line, to, got, want)
			}
		}
	}
}

func TestP7_1Step(t *testing.T) {
	t.Parallel()
	source, modes, traps := random(), map[[2]int]int{}, map[int]int{}
	for range 2500 {
		p := randomPatched(source)
		for range 20 {
			r := randomRegisters(source, p)
			slot := randomSlot(source, r)
			got := step(p, r, slot)
			if want := wantStepped(p, r, slot); !equalSteps(got, want) {
				t.Fatalf("Step of %v with %v, %d = %v; want %v", p, r, slot, got, want)
			}
			modes[[2]int{got.effect.Insn.Op, got.mode}]++
			traps[got.effect.Trap.Kind]++
		}
	}
	for _, op := range operations() {
		d := wantDisplaced(api.Insn{Op: op, Imm: 1}, 0, 0)
		enough(t, "steps of an operation in its mode", modes[[2]int{op, d.mode}], 30)
		enough(t, "steps of an operation that is not patched", modes[[2]int{op, api.PtNone}], 30)
		if d.mode == api.PtFix {
			enough(t, "steps of an operation that is too far", modes[[2]int{op, api.PtEmulate}], 30)
		}
	}
	for kind := api.TrNone; kind <= api.TrDivide; kind++ {
		enough(t, "steps with a kind of trap", traps[kind], 30)
	}
}

// TestP7_1StepReturns checks instructions in the slot after which the program counter is that of the slot, or that of the following instruction there.
func TestP7_1StepReturns(t *testing.T) {
	s := api.Space{Perm: []int{code, writable}, Bytes: make([]byte, 2*pageSize)}
	for _, x := range []struct {
		line string
		at   int64
		r    [8]int64
		word int64 // at 64, where the stack is
		slot int64
		pc   int64
		mode int
	}{
		{"jumpr r1", 5, [8]int64{1: 102}, 0, 100, 102, api.PtCopy},
		{"jumpr r1", 5, [8]int64{1: 100}, 0, 100, 100, api.PtCopy},
		{"jumpr r1", 5, [8]int64{1: 5}, 0, 100, 5, api.PtCopy},
		{"jumpr r1", 5, [8]int64{1: 7}, 0, 5, 7, api.PtCopy},
		{"ret", 5, [8]int64{7: 64}, 101, 100, 101, api.PtCopy},
		{"ret", 5, [8]int64{7: 64}, 100, 100, 100, api.PtCopy},
		{"ret", 5, [8]int64{7: 64}, 6, 100, 6, api.PtCopy},
		{"nop", 5, [8]int64{}, 0, 100, 6, api.PtCopy},
		{"nop", 5, [8]int64{}, 0, math.MaxInt64, 6, api.PtCopy},
		{"move r1, r2", 5, [8]int64{}, 0, -2, 7, api.PtCopy},
		{"move r1, r2", 5, [8]int64{}, 0, math.MaxInt64, 7, api.PtCopy},
		{"beq r1, r2, .+0", 5, [8]int64{}, 0, 100, 8, api.PtEmulate},
		{"beq r1, r2, .+0", 5, [8]int64{}, 0, 6, 8, api.PtFix},
		{"beq r1, r2, .+0", 5, [8]int64{1: 9}, 0, 6, 8, api.PtFix},
		{"beq r1, r2, .+0", 5, [8]int64{}, 0, 5, 8, api.PtEmulate},
		{"beq r1, r2, .+4", 5, [8]int64{}, 0, 9, 12, api.PtEmulate},
		{"beq r1, r2, .+4", 5, [8]int64{}, 0, 6, 12, api.PtFix},
		{"beq r1, r2, .+4", 5, [8]int64{1: 9}, 0, 6, 8, api.PtFix},
		{"beq r1, r2, .+4", 5, [8]int64{1: 9}, 0, 9, 8, api.PtEmulate},
		{"jump .-3", 5, [8]int64{}, 0, 100, 5, api.PtFix},
		{"jump .-3", 5, [8]int64{}, 0, 2, 5, api.PtEmulate},
		{"lea r1, .+3", 5, [8]int64{}, 0, 8, 9, api.PtFix},
		{"lea r1, .+3", 5, [8]int64{}, 0, 100, 9, api.PtFix},
		{"lea r1, .+3", 5, [8]int64{}, 0, 100000, 9, api.PtEmulate},
		{"call .+9", 5, [8]int64{7: 128}, 0, 6, 17, api.PtEmulate},
		{"callr r1", 5, [8]int64{1: 99, 7: 128}, 0, 6, 99, api.PtEmulate},
		{"sys 4", 5, [8]int64{}, 0, 6, 7, api.PtEmulate},
		{"div r1, r2", 5, [8]int64{}, 0, 100, 5, api.PtCopy},
		{"div r1, r2", 5, [8]int64{2: 1}, 0, 100, 7, api.PtCopy},
		{"load8 r1, [r2]", 5, [8]int64{}, 0, 100, 5, api.PtCopy},
		{"push r1", 5, [8]int64{7: 3}, 0, 100, 5, api.PtCopy},
		{"ret", 5, [8]int64{7: 121}, 0, 100, 5, api.PtCopy},
	} {
		plain := copiedSpace(s)
		copy(plain.Bytes[x.at:], assembled(t, x.line, x.at))
		plain.Bytes[64] = byte(x.word)
		r := api.Regs{R: x.r, Pc: x.at}
		got := step(with(plain, 1, x.at), r, x.slot)
		if got.e != api.OK || got.effect.Regs.Pc != x.pc || got.mode != x.mode || got.effect.Insn != parsed(t, x.line) {
			t.Errorf("Step of %s with %v in %d = %v; want %d, %d", x.line, x.r, x.slot, got, x.pc, x.mode)
		}
		if want := wantStepped(with(plain, 1, x.at), r, x.slot); !equalSteps(got, want) {
			t.Errorf("Step of %s with %v in %d = %v; want %v", x.line, x.r, x.slot, got, want)
		}
	}
}

func TestP7_1Apply(t *testing.T) {
	source, errors := random(), map[api.Errno]int{}
	for range 2500 {
		p := randomPatched(source)
		for range 8 {
			x := randomEffect(source, p)
			got := apply(p, x)
			if want := wantApplied(p, x); !equalOutcomes(got, want) {
				t.Fatalf("Apply of %v to %v = %v; want %v", x, p, got, want)
			}
			errors[got.e]++
		}
	}
	enough(t, "effects that are applied", errors[api.OK], 3000)
	enough(t, "effects that are refused", errors[api.ErrEffect], 3000)
}

func TestP7_1Rebase(t *testing.T) {
	t.Parallel()
	source, errors := random(), map[api.Errno]int{}
	for range 2500 {
		p := randomPatched(source)
		for _, s := range []api.Space{randomSpace(source), wantClean(p), p.Space, wantClean(randomPatched(source)), nops(6), {}} {
			for range 3 {
				got := rebase(p, s)
				if want := wantRebased(p, s); !equalOutcomes(got, want) {
					t.Fatalf("Rebase of %v to %v = %v; want %v", p, s, got, want)
				}
				errors[got.e]++
				s = changedSpace(source.Intn(1000), s)
			}
		}
	}
	enough(t, "spaces to which breakpoints are moved", errors[api.OK], 5000)
	enough(t, "spaces to which they cannot be moved", errors[api.ErrCode], 5000)
}

// changedSpace returns a space that differs in one byte.
func changedSpace(i int, s api.Space) api.Space {
	s = copiedSpace(s)
	if len(s.Bytes) > 0 {
		s.Bytes[i%len(s.Bytes)] = 128 + api.InNop
	}
	return s
}

// TestP7_1RebasePermissions checks spaces of another size, or with other permissions.
func TestP7_1RebasePermissions(t *testing.T) {
	p := with(nops(2), 7, 3, 63, 64, 127)
	for _, x := range []struct {
		s    api.Space
		want api.Errno
	}{
		{nops(2), api.OK}, {nops(3), api.OK}, {nops(32), api.OK}, {nops(1), api.ErrCode}, {nops(0), api.ErrCode},
		{api.Space{Perm: []int{code, writable}, Bytes: nops(2).Bytes}, api.ErrCode},
		{api.Space{Perm: []int{none, code}, Bytes: nops(2).Bytes}, api.ErrCode},
		{api.Space{Perm: []int{code, code, readable}, Bytes: nops(3).Bytes}, api.OK},
		{nops(33), api.ErrSpace}, {api.Space{Perm: []int{code, 5}, Bytes: nops(2).Bytes}, api.ErrSpace}, {api.Space{Perm: []int{code, code}, Bytes: nops(1).Bytes}, api.ErrSpace},
	} {
		got := rebase(p, x.s)
		if got.e != x.want || !equalOutcomes(got, wantRebased(p, x.s)) {
			t.Errorf("Rebase to %v = %v; want the error %d", x.s.Perm, got, x.want)
		}
	}
	if got := rebase(api.Patched{}, api.Space{}); !equalOutcomes(got, outcome{}) {
		t.Errorf("Rebase of nothing to nothing = %v", got)
	}
}

// TestP7_1Same checks patched spaces that differ in one place, or only in what is nil.
func TestP7_1Same(t *testing.T) {
	list := []api.Patched{
		{}, {Space: sample(t)}, with(sample(t), 1, 0), with(sample(t), 2, 0), with(sample(t), 1, 3), with(sample(t), 1, 0, 3),
		{L: []api.Patch{{}}}, {L: []api.Patch{{At: 1}}}, {L: []api.Patch{{Old: 1}}}, {L: []api.Patch{{N: 1}}}, {L: []api.Patch{{}, {}}}, {L: []api.Patch{{At: 1}, {}}}, {L: []api.Patch{{}, {At: 1}}},
		{Space: api.Space{Perm: []int{7}}}, {Space: api.Space{Perm: []int{7, 7}}}, {Space: api.Space{Perm: []int{8}}}, {Space: api.Space{Bytes: []byte{7}}}, {Space: api.Space{Bytes: []byte{7, 7}}}, {Space: api.Space{Bytes: []byte{8}}},
		{Space: api.Space{Bytes: []byte{8}}, L: []api.Patch{{N: -1}}}, {Space: nops(40), L: make([]api.Patch, 100)},
	}
	for i, a := range list {
		for j, b := range list {
			if got := patch.Same(a, copied(b)); got != (i == j) {
				t.Errorf("Same of %v and %v = %t", a, b, got)
			}
		}
	}
	empty := api.Patched{Space: api.Space{Perm: []int{}, Bytes: []byte{}}, L: []api.Patch{}}
	if !patch.Same(empty, api.Patched{}) || !patch.Same(api.Patched{}, empty) {
		t.Error("Same tells nil from empty")
	}
	if e := patch.Check(empty); e != api.OK {
		t.Errorf("Check of empty lists = %d", e)
	}
}
