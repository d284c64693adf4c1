package kernel_test

import (
	"fmt"
	"math"
	"math/rand"
	"strings"
	"testing"

	"tapline/api"
	"tapline/insn"
	"tapline/kernel"
	"tapline/sched"
)

// The states, effects and runs on which the tests try the functions.

const (
	readable = api.PmRead
	writable = api.PmRead + api.PmWrite
	code     = api.PmExec
)

var strange = []int{-1, -2, -7, 100, 1 << 31, 1 << 32, 1<<32 + 1, -1 << 32, math.MaxInt, math.MaxInt - 1, math.MinInt, math.MinInt + 1}

func random() *rand.Rand { return rand.New(rand.NewSource(6)) }

// among returns one of some values.
func among[T any](source *rand.Rand, values ...T) T { return values[source.Intn(len(values))] }

// enough reports a test that tried too few of what it is about.
func enough(t *testing.T, what string, n, least int) {
	t.Helper()
	if n < least {
		t.Errorf("only %d %s", n, what)
	}
}

// randomNumber returns a number that can be an index, a channel or a priority, or mean an address, or nothing.
func randomNumber(source *rand.Rand) int64 {
	switch source.Intn(8) {
	case 0:
		return int64(source.Uint64()) >> source.Intn(64)
	case 1:
		return int64(among(source, strange...))
	case 2, 3:
		return int64(source.Intn(450)) - 20
	}
	return int64(source.Intn(11)) - 1
}

func randomRegs(source *rand.Rand) api.Regs {
	var r api.Regs
	for i := range r.R {
		r.R[i] = randomNumber(source)
	}
	r.R[0] = among(source, int64(source.Intn(3)), int64(source.Intn(8)), r.R[0])
	r.R[1] = among(source, int64(source.Intn(4)), int64(64*source.Intn(6)+source.Intn(50)), int64(64*source.Intn(6)+source.Intn(50)), r.R[1])
	r.R[api.SP] = among(source, int64(source.Intn(400)), r.R[api.SP])
	r.Pc = randomNumber(source)
	return r
}

// randomInsn returns a well-formed instruction, often a system call.
func randomInsn(source *rand.Rand) api.Insn {
	if source.Intn(2) == 0 {
		return api.Insn{Op: api.InSys, Imm: int64(among(source, source.Intn(13), source.Intn(13), source.Intn(13), 4+source.Intn(9), source.Intn(128)))}
	}
	for {
		x := api.Insn{Op: 1 + source.Intn(34), A: source.Intn(8), B: source.Intn(8), Imm: int64(source.Intn(40)) - 20}
		if insn.Check(x) == api.OK {
			return x
		}
		x.B = 0
		if insn.Check(x) == api.OK {
			return x
		}
		x.Imm = 0
		if insn.Check(x) == api.OK {
			return x
		}
	}
}

// randomSpace returns a space, and where the instructions of its code begin.
func randomSpace(source *rand.Rand) (api.Space, []int64) {
	var s api.Space
	for range among(source, source.Intn(7), 5, 6) {
		s.Perm = append(s.Perm, among(source, 0, readable, writable, writable, writable, code, code))
	}
	s.Bytes = make([]byte, 64*len(s.Perm))
	source.Read(s.Bytes)
	var starts []int64
	for page, perm := range s.Perm {
		end := 64 * (page + 1)
		for at := 64 * page; perm == code; {
			b, _ := insn.Encode(randomInsn(source))
			if at+len(b) > end {
				break
			}
			starts = append(starts, int64(at))
			at += copy(s.Bytes[at:], b)
		}
	}
	return s, starts
}

// randomSyms returns symbols of a space of so many bytes.
func randomSyms(source *rand.Rand, size int64) []api.Sym {
	var l []api.Sym
	for at := int64(source.Intn(100)); at < size && len(l) < 32; {
		s := api.Sym{Name: fmt.Sprintf("%c%d", 'a'+source.Intn(26), len(l)), At: at, Size: 1 + source.Int63n(min(size-at, 40))}
		l = append(l, s)
		at += s.Size + int64(among(source, 0, source.Intn(100)))
	}
	return l
}

// randomSched returns a state of the scheduler behind random operations.
func randomSched(source *rand.Rand) api.Sched {
	s, _ := sched.New(1+source.Intn(4), 1+source.Intn(4))
	for range among(source, source.Intn(17), source.Intn(17), 16) {
		s, _, _ = sched.Add(s, among(source, 3, 4, source.Intn(8)), source.Intn(len(s.Cpus)))
	}
	for range 4 * source.Intn(14) {
		next, e, tid, c := s, api.OK, source.Intn(17), source.Intn(len(s.Cpus))
		switch source.Intn(9) {
		case 0, 1:
			next, e = sched.Block(s, tid)
		case 2:
			next, _, e = sched.Wake(s, tid)
		case 3, 4, 5:
			next, _, e = sched.Switch(s, c)
		case 6:
			next, _, e = sched.Tick(s, c)
		case 7:
			next, e = sched.SetPri(s, tid, source.Intn(8))
		case 8:
			next, e = sched.End(s, among(source, tid, 99))
		}
		if e == api.OK {
			s = next
		}
	}
	for c := range s.Cpus {
		if source.Intn(2) == 0 {
			s, _, _ = sched.Switch(s, c)
		}
	}
	return s
}

// randomKern returns a valid state of any kind.
func randomKern(source *rand.Rand) api.Kern {
	k := api.Kern{Sched: randomSched(source)}
	for range k.Sched.Cpus {
		k.Clocks = append(k.Clocks, api.Clock{Now: among(source, 0, source.Int63n(1000), source.Int63n(1000), api.MaxTime-int64(source.Intn(12))), Rate: 1 + source.Int63n(9)})
	}
	for range 1 + source.Intn(16) {
		b := make([]byte, 16)
		source.Read(b)
		k.Disk.Blocks = append(k.Disk.Blocks, b)
	}
	var starts [][]int64
	for range among(source, 1, 2, 3, 1+source.Intn(8)) {
		s, at := randomSpace(source)
		starts = append(starts, at)
		k.Procs = append(k.Procs, api.Proc{Name: strings.Repeat(string(rune(33+source.Intn(94))), 1+source.Intn(31)), Space: s, Syms: randomSyms(source, int64(len(s.Bytes)))})
	}
	for _, slot := range k.Sched.Threads {
		t := api.Thread{Pid: source.Intn(len(k.Procs)), Regs: randomRegs(source), Sys: -1}
		if l := starts[t.Pid]; len(l) > 0 && source.Intn(10) > 0 {
			t.Regs.Pc = among(source, l...)
		}
		if slot.State == api.StBlock {
			t.Wait = 1 + source.Intn(3)
			randomWait(source, &k, &t)
		}
		k.Threads = append(k.Threads, t)
	}
	source.Shuffle(len(k.Disk.Queue), func(i, j int) {
		k.Disk.Queue[i], k.Disk.Queue[j] = k.Disk.Queue[j], k.Disk.Queue[i]
	})
	bury(source, &k)
	return k
}

// randomWait makes the next thread of a state wait as it says.
func randomWait(source *rand.Rand, k *api.Kern, t *api.Thread) {
	switch t.Wait {
	case api.WtSleep:
		t.Chan, t.Sys = among(source, 0, 1, 2, randomNumber(source)), api.SysSleep
	case api.WtIo:
		t.Sys = api.SysRead + source.Intn(2)
		at := among(source, randomNumber(source), int64(source.Intn(400)))
		k.Disk.Queue = append(k.Disk.Queue, api.Request{Tid: len(k.Threads), Block: source.Intn(len(k.Disk.Blocks)), Write: t.Sys == api.SysWrite, At: at})
	}
}

// bury makes the processes dead that have no thread that is not.
func bury(source *rand.Rand, k *api.Kern) {
	for pid := range k.Procs {
		if m := (&model{Kern: *k}); !m.alive(pid) {
			k.Procs[pid].Dead, k.Procs[pid].Status = true, randomNumber(source)
		}
	}
}

// randomEffect returns an effect that can mostly be applied to a space.
func randomEffect(source *rand.Rand, s api.Space) api.Effect {
	e := api.Effect{Regs: randomRegs(source), Insn: api.Insn{Op: source.Intn(40)}}
	e.Trap = api.Trap{Kind: among(source, 0, 0, 1, 1, 2, 3, 4, 5, 6, -1, source.Intn(300)-100), N: among(source, source.Intn(13), source.Intn(13), among(source, strange...)), Fault: api.Fault{Kind: source.Intn(5), At: randomNumber(source)}}
	if source.Intn(2) > 0 {
		e.At = randomNumber(source)
		e.Data = make([]byte, source.Intn(10))
		source.Read(e.Data)
	}
	for page, perm := range s.Perm {
		if len(e.Data) > 0 && perm == writable && source.Intn(2) == 0 {
			e.At, e.Trap.Kind = int64(64*page+source.Intn(64)), 0
		}
	}
	return e
}

// The programs of the runs: each makes system calls for ever, or ends.
var programs = []string{
	"l: lit r0, 1\nsys 6\nlit r0, 1\nsys 7\nsys 1\njump l",
	"l: lit r0, 1\nsys 7\nsys 3\nsys 1\ninc r3, 1\nstore8 [r4+8], r3\nswap r3, [r4]\njump l",
	"l: lit r0, 0\nset r1, 70\nsys 9\nlit r0, 1\nsys 8\nsys 10\nstore8 [r1], r0\njump l",
	"lea r0, f\nset r1, 5\nset r2, 128\nsys 4\nf: lit r0, 2\nsys 5\nlit r0, 3\nsys 6\nsys 0",
	"l: sys 2\nadd r3, r0\nlit r0, 3\nsys 7\nlit r0, 5\nsys 5\npush r3\npop r5\ncall .+3\njump l\nnop\nret",
	"set r5, 12\nl: lit r0, 2\nset r1, 64\nsys 9\nlit r1, -1\nadd r5, r1\nlit r2, 0\nbne r5, r2, l\nlit r0, 0\nlit r1, 9\nsys 12\nlit r0, 7\nsys 0",
	"set r5, 40\nl: sys 3\nlit r1, -1\nadd r5, r1\nlit r2, 0\nbne r5, r2, l\ndiv r5, r2",
	"lit r0, 1\nlit r1, 1\nsys 11\nlit r0, 0\nset r1, 64\nsys 8\nlit r0, 1\nlit r1, 3\nsys 11\nlit r0, 0\nset r1, 64\nsys 8\nsys 99\nlit r0, 4\nlit r1, 2\nsys 12\nstore1 [r7], r0",
}

// randomBoot returns a configuration of such programs.
func randomBoot(t *testing.T, source *rand.Rand) api.Boot {
	t.Helper()
	b := api.Boot{Blocks: 3, Quantum: 1 + source.Intn(5)}
	for range 1 + source.Intn(4) {
		b.Rates = append(b.Rates, 1+source.Int63n(9))
	}
	for i := range 1 + source.Intn(8) {
		p := program(t, among(source, programs...))
		p.Name, p.Pri = fmt.Sprint("p", i), 3+source.Intn(2)
		b.Programs = append(b.Programs, p)
	}
	return b
}

// program returns a process of a text, with a page of data behind those of the code.
func program(t *testing.T, text string) api.Program {
	t.Helper()
	b, syms, _, e := insn.Assemble(text, 0)
	if e != api.OK || len(b) > 64 {
		t.Fatalf("Assemble of %q: %d bytes, %d", text, len(b), e)
	}
	s := api.Space{Perm: []int{code, writable}, Bytes: make([]byte, 128)}
	copy(s.Bytes, b)
	return api.Program{Name: "p", Space: s, Syms: syms, Stack: 128, Pri: 3}
}

// started returns the first state of a configuration.
func started(t *testing.T, b api.Boot) api.Kern {
	t.Helper()
	k, e := kernel.New(b)
	if e != api.OK {
		t.Fatalf("New of %+v has the error %d", b, e)
	}
	return k
}

// randomPicks returns so many picks, most of them steps.
func randomPicks(source *rand.Rand, cpus, n int) []api.Pick {
	var l []api.Pick
	for range n {
		l = append(l, api.Pick{Cpu: source.Intn(cpus), Kind: among(source, 0, 0, 0, 0, 0, 0, 1, 2)})
	}
	return l
}

// trail is a run, with the states between the transitions: events[i] are those of the one behind states[i].
type trail struct {
	picks  []api.Pick
	states []api.Kern
	events [][]api.Event
}

func (r trail) last() api.Kern { return r.states[len(r.states)-1] }

// follow makes transitions from a state, one by one.
func follow(t *testing.T, k api.Kern, l []api.Pick) trail {
	t.Helper()
	r := trail{picks: l, states: []api.Kern{k}}
	for _, p := range l {
		o := step(k, p)
		if o.e != api.OK {
			t.Fatalf("Step of %v has the error %d", p, o.e)
		}
		k = o.k
		r.states, r.events = append(r.states, k), append(r.events, o.events)
	}
	return r
}

// trails returns random runs from the beginning, and what there was in them.
func trails(t *testing.T, n, length int) []trail {
	t.Helper()
	source := random()
	var l []trail
	for range n {
		k := started(t, randomBoot(t, source))
		l = append(l, follow(t, k, randomPicks(source, len(k.Clocks), length)))
	}
	return l
}
