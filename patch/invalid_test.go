package patch_test

import (
	"math"
	"math/rand"
	"reflect"
	"slices"
	"sync"
	"testing"

	"tapline/api"
	"tapline/patch"
)

// P7.1 and P1 for arguments that are not valid: the error named first, and zero values beside it; and what no call may do to its arguments.

var strange = []int{0, -1, mostN + 1, mostN + 2, 1 << 31, 1 << 32, 1<<32 + 1, -1 << 32, math.MaxInt, math.MinInt, math.MinInt + 5}

// invalidPatched returns patched spaces that are not valid, each for one reason.
func invalidPatched(t *testing.T) []api.Patched {
	t.Helper()
	var list []api.Patched
	change := func(do func(p *api.Patched)) {
		p := with(sample(t), 2, 0, 3, 6)
		do(&p)
		list = append(list, p)
	}
	for _, n := range strange {
		for i := range 3 {
			change(func(p *api.Patched) { p.L[i].N = n })
		}
	}
	for _, at := range append([]int64{0, 1, 2, 4, 5, 6, 7, 8, 9, 63, 64, 127, 128}, far...) {
		// At an address at which nothing stands the byte is 204, where there is one.
		change(func(p *api.Patched) {
			p.L[1].At = at
			if 0 <= at && at < 2*pageSize {
				p.Space.Bytes[at] = breakByte
			}
		})
	}
	for _, at := range append([]int64{pageSize, 2*pageSize - 1, 2 * pageSize}, far...) {
		change(func(p *api.Patched) {
			p.L = []api.Patch{{At: at, Old: 128 + api.InNop, N: 1}}
			if 0 <= at && at < 2*pageSize {
				p.Space.Bytes[at] = breakByte
			}
		})
	}
	for _, old := range []byte{0, 1, 127, 128, 128 + 35, 128 + 75, 128 + 77, 255, 128 + api.InMove, 128 + api.InLea} {
		change(func(p *api.Patched) { p.L[1].Old = old })
	}
	for _, b := range []byte{0, 127, 153, 203, 205, 255} {
		change(func(p *api.Patched) { p.Space.Bytes[3] = b })
	}
	change(func(p *api.Patched) { p.L[0], p.L[1] = p.L[1], p.L[0] })
	change(func(p *api.Patched) { p.L[1], p.L[2] = p.L[2], p.L[1] })
	change(func(p *api.Patched) { p.L = append(p.L, p.L[2]) })
	change(func(p *api.Patched) { p.L = slices.Insert(p.L, 0, p.L[0]) })
	change(func(p *api.Patched) { p.L[0] = api.Patch{} })
	change(func(p *api.Patched) { p.Space.Perm[0] = readable })
	change(func(p *api.Patched) { p.Space.Perm[0] = 5 })
	change(func(p *api.Patched) { p.Space.Perm[1] = -1 })
	change(func(p *api.Patched) { p.Space.Perm = nil })
	change(func(p *api.Patched) { p.Space.Bytes = nil })
	change(func(p *api.Patched) { p.Space = api.Space{} })
	change(func(p *api.Patched) { p.Space.Bytes = p.Space.Bytes[:127] })
	change(func(p *api.Patched) { p.Space.Bytes = append(p.Space.Bytes, 0) })
	list = append(list, api.Patched{Space: nops(33)}, api.Patched{L: make([]api.Patch, 1)}, api.Patched{L: make([]api.Patch, 100000)}, api.Patched{Space: nops(2), L: make([]api.Patch, 100000)})
	// One patch more than there may be.
	many := full()
	many.L = slices.Insert(many.L, 0, api.Patch{At: 0, Old: many.Space.Bytes[0], N: 1})
	many.Space.Bytes[0] = breakByte
	list = append(list, many)
	// An instruction that does not end within its page, and one that does not end with the space.
	return append(list, cut(code, none), cut(code, writable), cut(none, code))
}

// cut returns a patched space in which an instruction lacks its last byte: it is at the end of the code page.
func cut(perms ...int) api.Patched {
	s := api.Space{Perm: perms, Bytes: make([]byte, pageSize*len(perms))}
	at := int64(pageSize*(slices.Index(perms, code)+1) - 2)
	s.Bytes[at] = 128 + api.InInc
	return with(s, 1, at)
}

// TestP7_1InvalidSpace checks that a patched space that is not valid is told before anything else that is wrong.
func TestP7_1InvalidSpace(t *testing.T) {
	list := invalidPatched(t)
	source := random()
	for len(list) < 2000 {
		p := randomPatched(source)
		if disturb(source, &p); !wantValid(p) {
			list = append(list, p)
		}
	}
	for i, p := range list {
		if wantValid(p) {
			t.Fatalf("%d: %v is valid", i, p)
		}
		refused(t, p)
	}
}

// refused checks that each function returns ErrPatch of a patched space.
func refused(t *testing.T, p api.Patched) {
	t.Helper()
	want := outcome{e: api.ErrPatch}
	if e := patch.Check(p); e != api.ErrPatch {
		t.Fatalf("Check of %v = %d; want ErrPatch", p, e)
	}
	if s, e := patch.Clean(p); e != api.ErrPatch || !equalSpaces(s, api.Space{}) {
		t.Fatalf("Clean of %v = %v, %d; want ErrPatch", p, s, e)
	}
	for _, at := range []int64{0, 1, 3, 6, -1, 100} {
		if a, b := install(p, at), remove(p, at); !equalOutcomes(a, want) || !equalOutcomes(b, want) {
			t.Fatalf("Install and Remove of %v at %d = %v, %v; want ErrPatch", p, at, a, b)
		}
		if got := find(p, at); got != (place{}) {
			t.Fatalf("Find in %v at %d = %v; want 0 and false", p, at, got)
		}
		if got := originalOf(p, at); got != (original{e: api.ErrPatch}) {
			t.Fatalf("Original of %v at %d = %v; want ErrPatch", p, at, got)
		}
		if got := step(p, api.Regs{Pc: at, R: [8]int64{7, 7, 7}}, 5); !equalSteps(got, stepped{e: api.ErrPatch}) {
			t.Fatalf("Step of %v at %d = %v; want ErrPatch", p, at, got)
		}
		if got := apply(p, api.Effect{At: at}); !equalOutcomes(got, want) {
			t.Fatalf("Apply to %v = %v; want ErrPatch", p, got)
		}
	}
	for _, s := range []api.Space{{}, sample(t), nops(2), p.Space, nops(33), {Perm: []int{5}, Bytes: nops(1).Bytes}} {
		if got := rebase(p, s); !equalOutcomes(got, want) {
			t.Fatalf("Rebase of %v = %v; want ErrPatch", p, got)
		}
	}
}

// disturb changes a patched space in one place.
func disturb(source *rand.Rand, p *api.Patched) {
	some := 0
	if len(p.L) > 0 {
		some = source.Intn(len(p.L))
	}
	switch n := source.Intn(10); {
	case len(p.L) == 0 || n == 0:
		x := api.Patch{At: randomAddress(source, *p), Old: byte(source.Intn(256)), N: 1}
		i := slices.IndexFunc(p.L, func(y api.Patch) bool { return y.At >= x.At })
		p.L = slices.Insert(p.L, max(i, 0), x)
		if 0 <= x.At && x.At < int64(len(p.Space.Bytes)) && source.Intn(4) > 0 {
			p.Space.Bytes[x.At] = breakByte
		}
	case n == 1:
		p.L[some].N = []int{0, -1, 1, mostN, mostN + 1, 1 << 32}[source.Intn(6)]
	case n == 2:
		p.L[some].At = randomAddress(source, *p)
	case n == 3:
		p.L[some].Old = byte(source.Intn(256))
	case n == 4:
		p.L[some].Old = byte(128 + operations()[source.Intn(34)])
	case n == 5:
		p.Space.Bytes[p.L[some].At] = byte(source.Intn(256))
	case n == 6:
		p.Space.Bytes[source.Intn(len(p.Space.Bytes))] = byte(source.Intn(256))
	case n == 7:
		p.Space.Perm[source.Intn(len(p.Space.Perm))] = source.Intn(7) - 1
	case n == 8:
		p.L = slices.Delete(p.L, some, some+1)
	default:
		p.L = append(p.L, p.L[some])
	}
}

// TestP7_1Check checks patched spaces of which some are valid, and some are not.
func TestP7_1Check(t *testing.T) {
	t.Parallel()
	source, valid := random(), map[bool]int{}
	for range 20000 {
		p := randomPatched(source)
		for range source.Intn(3) {
			if len(p.Space.Bytes) > 0 && !slices.ContainsFunc(p.L, func(x api.Patch) bool { return !isCode(p.Space, x.At) }) {
				disturb(source, &p)
			}
		}
		want := api.OK
		if !wantValid(p) {
			want = api.ErrPatch
		}
		if got := patch.Check(p); got != want {
			t.Fatalf("Check of %v = %d; want %d", p, got, want)
		}
		valid[want == api.OK]++
	}
	enough(t, "valid patched spaces", valid[true], 4000)
	enough(t, "other patched spaces", valid[false], 4000)
}

// TestP7_1CheckFull checks the number of patches.
func TestP7_1CheckFull(t *testing.T) {
	p := full()
	if e := patch.Check(p); len(p.L) != 64 || e != api.OK {
		t.Errorf("Check of %d patches = %d", len(p.L), e)
	}
	p = with(nops(3), 1, slices.Collect(func(yield func(int64) bool) {
		for at := int64(0); at < 65 && yield(at); at++ {
		}
	})...)
	if e := patch.Check(p); len(p.L) != 65 || e != api.ErrPatch {
		t.Errorf("Check of %d patches = %d; want ErrPatch", len(p.L), e)
	}
}

func TestP7_1InvalidInstruction(t *testing.T) {
	list := []api.Insn{
		{}, {Op: -1}, {Op: 35}, {Op: 75}, {Op: 77}, {Op: 204}, {Op: math.MaxInt}, {Op: math.MinInt}, {Op: 1<<32 + api.InNop},
		{Op: api.InNop, A: 1}, {Op: api.InRet, Imm: 1}, {Op: api.InMove, A: 8}, {Op: api.InMove, B: -1}, {Op: api.InPush, A: math.MinInt},
		{Op: api.InLit, Imm: 64}, {Op: api.InLoad8, Imm: -65}, {Op: api.InBeq, A: 1, B: 9}, {Op: api.InBeq, Imm: 64}, {Op: api.InBge, Imm: -65},
		{Op: api.InJump, Imm: 8192}, {Op: api.InJump, A: 1}, {Op: api.InCall, Imm: -8193}, {Op: api.InLea, Imm: 8192}, {Op: api.InLea, B: 1},
		{Op: api.InSys, Imm: 128}, {Op: api.InSys, Imm: -1}, {Op: api.InSwap, Imm: 1}, {Op: api.InBreak, B: 1}, {Op: api.InCallR, Imm: 1},
	}
	for _, x := range list {
		for _, at := range append([]int64{0, 1, 100}, far...) {
			for _, to := range []int64{0, 1, at, -7, 10000, math.MinInt64} {
				if got := displace(x, at, to); got != (displacement{e: api.ErrInsn}) {
					t.Errorf("Displace(%v, %d, %d) = %v; want ErrInsn", x, at, to, got)
				}
			}
		}
	}
	// With another Imm these would be instructions at `to`; the one at `from` is none.
	if got := displace(api.Insn{Op: api.InJump, Imm: 9000}, 0, 5000); got != (displacement{e: api.ErrInsn}) {
		t.Errorf("Displace of a jump that is too far = %v; want ErrInsn", got)
	}
}

// TestP7_1ErrorOrder checks calls in which several things are wrong.
func TestP7_1ErrorOrder(t *testing.T) {
	p := full()
	for _, at := range append([]int64{192, 193, 300}, far...) {
		if got := install(p, at); !equalOutcomes(got, outcome{e: api.ErrCode}) {
			t.Errorf("Install in a full list at %d, where nothing stands = %v; want ErrCode", at, got.e)
		}
	}
	if got := install(p, 190); !equalOutcomes(got, outcome{e: api.ErrLong}) {
		t.Errorf("Install in a full list = %v; want ErrLong", got.e)
	}
	p.L[3].N = mostN
	if got := install(p, p.L[3].At); !equalOutcomes(got, outcome{e: api.ErrLong}) {
		t.Errorf("Install at a breakpoint that is wanted as often as possible = %v; want ErrLong", got.e)
	}
	wrong := nops(1)
	wrong.Perm[0] = 9
	if got := rebase(p, wrong); !equalOutcomes(got, outcome{e: api.ErrSpace}) {
		t.Errorf("Rebase to a space that is not valid, without instructions = %v; want ErrSpace", got.e)
	}
}

// region is the memory of a slice, with the room behind its end.
type region struct{ from, to uintptr }

// regions returns the memory of all slices in a value.
func regions(v reflect.Value) []region {
	var l []region
	switch v.Kind() {
	case reflect.Struct:
		for i := range v.NumField() {
			l = append(l, regions(v.Field(i))...)
		}
	case reflect.Slice:
		if size := v.Type().Elem().Size() * uintptr(v.Cap()); size > 0 {
			l = append(l, region{v.Pointer(), v.Pointer() + size})
		}
		for i := range v.Len() {
			l = append(l, regions(v.Index(i))...)
		}
	}
	return l
}

// apart fails if two slices in these values share memory.
func apart(t *testing.T, what string, values ...any) {
	t.Helper()
	var l []region
	for _, v := range values {
		l = append(l, regions(reflect.ValueOf(v))...)
	}
	for i, a := range l {
		for _, b := range l[:i] {
			if a.from < b.to && b.from < a.to {
				t.Fatalf("%s: slices share memory", what)
			}
		}
	}
}

// TestP1Memory checks that no function changes an argument, and that no slice of a result shares memory with an argument or with another one.
func TestP1Memory(t *testing.T) {
	t.Parallel()
	source := random()
	for range 400 {
		p, s := randomPatched(source), randomSpace(source)
		before, given := copied(p), copiedSpace(s)
		for _, at := range append(places(wantClean(p)), 1, -1) {
			apart(t, "Install", p, install(p, at).p)
			apart(t, "Remove", p, remove(p, at).p)
			find(p, at)
			originalOf(p, at)
			r := randomRegisters(source, p)
			r.Pc = at
			apart(t, "Step", p, step(p, r, randomSlot(source, r)).effect)
		}
		x := randomEffect(source, p)
		data := slices.Clone(x.Data)
		apart(t, "Apply", p, x, apply(p, x).p)
		apart(t, "Apply", p, apply(p, api.Effect{}).p)
		apart(t, "Rebase", p, s, rebase(p, s).p)
		own := wantClean(p)
		apart(t, "Rebase", p, own, rebase(p, own).p)
		apart(t, "Clean", p, clean(t, p))
		patch.Same(p, p)
		if !equal(p, before) || !equalSpaces(s, given) || !slices.Equal(x.Data, data) {
			t.Fatalf("an argument is changed from %v to %v", before, p)
		}
	}
}

// TestP1Room checks that nothing is written behind the end of an argument's list.
func TestP1Room(t *testing.T) {
	p := with(sample(t), 1, 3)
	p.L = append(p.L, api.Patch{At: 77})[:1]
	install(p, 0)
	install(p, 6)
	remove(p, 3)
	if p.L[:2][1].At != 77 || p.L[0] != (api.Patch{At: 3, Old: 153, N: 1}) {
		t.Errorf("the list is now %v", p.L[:2])
	}
}

// TestP1NoState checks that a call does not depend on those before it, or on those at the same time.
func TestP1NoState(t *testing.T) {
	source := random()
	for range 60 {
		p := randomPatched(source)
		list := places(wantClean(p))
		results := func(at int64) []outcome {
			got := step(p, api.Regs{Pc: at}, 1000)
			return []outcome{install(p, at), remove(p, at), apply(p, api.Effect{}), {p: api.Patched{L: []api.Patch{{At: got.effect.Regs.Pc, N: got.mode}}}}}
		}
		first, again := make([][]outcome, len(list)), make([][]outcome, len(list))
		for i, at := range list {
			first[i] = results(at)
		}
		var all sync.WaitGroup
		for i, at := range list {
			all.Go(func() { again[i] = results(at) })
		}
		all.Wait()
		for i := range list {
			if !slices.EqualFunc(first[i], again[i], equalOutcomes) {
				t.Fatalf("the calls at %d return %v, later %v", list[i], first[i], again[i])
			}
		}
	}
}
