package kernel_test

import (
	"fmt"
	"math"
	"math/rand"
	"slices"
	"strings"
	"testing"

	"tapline/api"
	"tapline/kernel"
)

// P6.1: which states and configurations are valid, and which states are equal.

// full returns a state with the greatest numbers of all: 8 processes, 16 threads of all kinds, 4 processors, 16 blocks. Process 1 has 32 symbols, process 2 is dead.
func full() api.Kern {
	k := api.Kern{Sched: api.Sched{Quantum: 20, Cpus: []api.CpuQ{{Run: 0, Left: 20}, {Run: 1}, {Run: -1, Ready: []int{3}}, {Run: -1}}}}
	for pid := range 8 {
		s := api.Space{Perm: make([]int, 4*pid), Bytes: make([]byte, 256*pid)}
		k.Procs = append(k.Procs, api.Proc{Name: strings.Repeat("~", 31-pid), Space: s})
	}
	for i := range 32 {
		k.Procs[1].Syms = append(k.Procs[1].Syms, api.Sym{Name: fmt.Sprint("_s", i), At: int64(8 * i), Size: 8})
	}
	for tid := range 16 {
		k.Sched.Threads = append(k.Sched.Threads, api.Slot{Pri: tid % 8, Cpu: tid % 4, State: api.StBlock})
		k.Threads = append(k.Threads, api.Thread{Pid: tid % 8, Wait: api.WtStop, Sys: -1})
	}
	for tid, state := range []int{api.StRun, api.StRun, api.StDead, api.StReady} {
		k.Sched.Threads[tid].State = state
		k.Sched.Threads[tid].Cpu = min(tid, 2)
		k.Threads[tid].Wait = api.WtNone
	}
	k.Threads[10] = api.Thread{Pid: 3, Wait: api.WtSleep, Chan: -5, Sys: api.SysSleep}
	k.Threads[14] = api.Thread{Pid: 6, Wait: api.WtIo, Sys: api.SysRead}
	k.Threads[15] = api.Thread{Pid: 7, Wait: api.WtIo, Sys: api.SysWrite}
	k.Procs[2].Dead, k.Procs[2].Status = true, math.MinInt64
	for c := range 4 {
		k.Clocks = append(k.Clocks, api.Clock{Now: int64(c%2) << 40, Rate: 1 + 8*int64(c%2)})
	}
	k.Disk.Blocks = slices.Repeat([][]byte{make([]byte, 16)}, 16)
	k.Disk.Queue = []api.Request{{Tid: 15, Block: 15, Write: true, At: math.MinInt64}, {Tid: 14, At: math.MaxInt64}}
	return copied(k)
}

// change is a change of the full state, and what Check says of it.
type change struct {
	what string
	e    api.Errno
	do   func(k *api.Kern)
}

func processChanges() []change {
	return []change{
		{"nothing", api.OK, func(k *api.Kern) {}},
		{"9 processes", api.ErrKern, func(k *api.Kern) { k.Procs = append(k.Procs, api.Proc{Name: "p", Dead: true}) }},
		{"7 processes", api.ErrKern, func(k *api.Kern) { k.Procs = k.Procs[:7] }},
		{"no processes and threads", api.ErrKern, func(k *api.Kern) {
			*k = api.Kern{Sched: api.Sched{Cpus: []api.CpuQ{{Run: -1}}, Quantum: 1}, Clocks: []api.Clock{{Rate: 1}}, Disk: api.Disk{Blocks: k.Disk.Blocks}}
		}},
		{"a process without threads", api.OK, func(k *api.Kern) {
			*k = api.Kern{Procs: []api.Proc{{Name: "p", Dead: true}}, Sched: api.Sched{Cpus: []api.CpuQ{{Run: -1}}, Quantum: 1}, Clocks: []api.Clock{{Rate: 1}}, Disk: api.Disk{Blocks: k.Disk.Blocks}}
		}},
		{"a process without threads that is not dead", api.ErrKern, func(k *api.Kern) {
			*k = api.Kern{Procs: []api.Proc{{Name: "p"}}, Sched: api.Sched{Cpus: []api.CpuQ{{Run: -1}}, Quantum: 1}, Clocks: []api.Clock{{Rate: 1}}, Disk: api.Disk{Blocks: k.Disk.Blocks}}
		}},
		{"a name of 32 bytes", api.ErrKern, func(k *api.Kern) { k.Procs[0].Name += "~" }},
		{"a name of one byte", api.OK, func(k *api.Kern) { k.Procs[3].Name = "!" }},
		{"no name", api.ErrKern, func(k *api.Kern) { k.Procs[3].Name = "" }},
		{"a long name", api.ErrKern, func(k *api.Kern) { k.Procs[3].Name = strings.Repeat("a", 100000) }},
		{"a blank in a name", api.ErrKern, func(k *api.Kern) { k.Procs[3].Name = "a b" }},
		{"the byte 127 in a name", api.ErrKern, func(k *api.Kern) { k.Procs[3].Name = "a\x7f" }},
		{"the byte 255 in a name", api.ErrKern, func(k *api.Kern) { k.Procs[3].Name = "\xff" }},
		{"a letter of two bytes in a name", api.ErrKern, func(k *api.Kern) { k.Procs[3].Name = "é" }},
		{"the same name twice", api.OK, func(k *api.Kern) { k.Procs[3].Name = k.Procs[4].Name }},
		{"a space with a byte more", api.ErrKern, func(k *api.Kern) { k.Procs[7].Space.Bytes = append(k.Procs[7].Space.Bytes, 0) }},
		{"a permission of 2", api.ErrKern, func(k *api.Kern) { k.Procs[7].Space.Perm[27] = 2 }},
		{"a dead process that is not", api.ErrKern, func(k *api.Kern) { k.Procs[2].Dead, k.Procs[2].Status = false, 0 }},
		{"a process that is not dead", api.ErrKern, func(k *api.Kern) { k.Procs[3].Dead = true }},
		{"a status of a process that is not dead", api.ErrKern, func(k *api.Kern) { k.Procs[3].Status = 1 }},
		{"a dead process with the status 0", api.OK, func(k *api.Kern) { k.Procs[2].Status = 0 }},
		{"a thread of a dead process", api.ErrKern, func(k *api.Kern) { k.Threads[9].Pid = 2 }},
		{"the last thread of a process that is not dead", api.OK, func(k *api.Kern) { k.Threads[3].Pid = 4 }},
	}
}

func symbolChanges() []change {
	syms := func(l ...api.Sym) func(k *api.Kern) {
		return func(k *api.Kern) { k.Procs[1].Syms = l }
	}
	return []change{
		{"33 symbols", api.ErrKern, func(k *api.Kern) {
			k.Procs[2].Syms = append(list(k.Procs[1].Syms), api.Sym{Name: "last", At: 300, Size: 1})
		}},
		{"32 symbols of another process", api.OK, func(k *api.Kern) { k.Procs[2].Syms = list(k.Procs[1].Syms) }},
		{"many symbols", api.ErrKern, func(k *api.Kern) { k.Procs[1].Syms = make([]api.Sym, 100000) }},
		{"a name twice", api.ErrKern, func(k *api.Kern) { k.Procs[1].Syms[31].Name = "_s0" }},
		{"no name", api.ErrKern, syms(api.Sym{At: 0, Size: 1})},
		{"a name of 31 bytes", api.OK, syms(api.Sym{Name: strings.Repeat("Z", 31), Size: 1})},
		{"a name of 32 bytes", api.ErrKern, syms(api.Sym{Name: strings.Repeat("Z", 32), Size: 1})},
		{"a digit ahead", api.ErrKern, syms(api.Sym{Name: "0a", Size: 1})},
		{"a digit behind", api.OK, syms(api.Sym{Name: "a9", Size: 1})},
		{"a point", api.ErrKern, syms(api.Sym{Name: "a.b", Size: 1})},
		{"a line feed", api.ErrKern, syms(api.Sym{Name: "a\n", Size: 1})},
		{"an At below 0", api.ErrKern, syms(api.Sym{Name: "a", At: -1, Size: 2})},
		{"a Size of 0", api.ErrKern, syms(api.Sym{Name: "a", At: 5})},
		{"a Size below 0", api.ErrKern, syms(api.Sym{Name: "a", At: 5, Size: -1})},
		{"the same At twice", api.ErrKern, syms(api.Sym{Name: "a", At: 5, Size: 1}, api.Sym{Name: "b", At: 5, Size: 1})},
		{"one within the other", api.ErrKern, syms(api.Sym{Name: "a", At: 5, Size: 9}, api.Sym{Name: "b", At: 6, Size: 1})},
		{"one beside the other", api.OK, syms(api.Sym{Name: "a", At: 5, Size: 1}, api.Sym{Name: "b", At: 6, Size: 1})},
		{"one apart from the other", api.OK, syms(api.Sym{Name: "a", At: 5, Size: 1}, api.Sym{Name: "b", At: 9, Size: 1})},
		{"one ahead of the other", api.ErrKern, syms(api.Sym{Name: "a", At: 9, Size: 1}, api.Sym{Name: "b", At: 5, Size: 1})},
		{"the whole space", api.OK, syms(api.Sym{Name: "a", Size: 256})},
		{"more than the space", api.ErrKern, syms(api.Sym{Name: "a", Size: 257})},
		{"the last byte", api.OK, syms(api.Sym{Name: "a", At: 255, Size: 1})},
		{"one behind it", api.ErrKern, syms(api.Sym{Name: "a", At: 256, Size: 1})},
		{"an end that wraps around", api.ErrKern, syms(api.Sym{Name: "a", At: 1, Size: math.MaxInt64})},
		{"an At that wraps around", api.ErrKern, syms(api.Sym{Name: "a", At: math.MaxInt64, Size: 1})},
		{"an At and a Size that wrap around", api.ErrKern, syms(api.Sym{Name: "a", At: math.MaxInt64, Size: math.MaxInt64})},
		{"the least At", api.ErrKern, syms(api.Sym{Name: "a", At: math.MinInt64, Size: 1})},
		{"the least Size", api.ErrKern, syms(api.Sym{Name: "a", At: 1, Size: math.MinInt64})},
		{"an end that wraps around to the next one", api.ErrKern, syms(api.Sym{Name: "a", At: 1, Size: math.MaxInt64}, api.Sym{Name: "b", At: 2, Size: 1})},
		{"a symbol of an empty space", api.ErrKern, func(k *api.Kern) { k.Procs[0].Syms = []api.Sym{{Name: "a", Size: 1}} }},
	}
}

func threadChanges() []change {
	waits := func(tid, wait int, channel int64, call int) func(k *api.Kern) {
		return func(k *api.Kern) { k.Threads[tid].Wait, k.Threads[tid].Chan, k.Threads[tid].Sys = wait, channel, call }
	}
	l := []change{
		{"a scheduler that is not valid", api.ErrKern, func(k *api.Kern) { k.Sched.Quantum = 21 }},
		{"a thread less", api.ErrKern, func(k *api.Kern) { k.Threads, k.Disk.Queue = k.Threads[:15], k.Disk.Queue[1:] }},
		{"a thread more", api.ErrKern, func(k *api.Kern) { k.Threads = append(k.Threads, api.Thread{Pid: 2, Sys: -1}) }},
		{"a thread of the scheduler less", api.ErrKern, func(k *api.Kern) { k.Sched.Threads = k.Sched.Threads[:15] }},
		{"17 threads", api.ErrKern, func(k *api.Kern) {
			k.Threads = append(k.Threads, api.Thread{Pid: 2, Sys: -1})
			k.Sched.Threads = append(k.Sched.Threads, api.Slot{State: api.StDead})
		}},
		{"a Pid of 8", api.ErrKern, func(k *api.Kern) { k.Threads[8].Pid = 8 }},
		{"a Pid of -1", api.ErrKern, func(k *api.Kern) { k.Threads[8].Pid = -1 }},
		{"a dead thread with a Pid of 8", api.ErrKern, func(k *api.Kern) { k.Threads[2].Pid = 8 }},
		{"any registers", api.OK, func(k *api.Kern) {
			k.Threads[1].Regs = api.Regs{R: [8]int64{math.MinInt64, math.MaxInt64, -1}, Pc: math.MinInt64}
		}},
		{"any channel", api.OK, waits(10, api.WtSleep, math.MaxInt64, api.SysSleep)},
		{"a call that does not sleep", api.ErrKern, waits(10, api.WtSleep, 0, api.SysWake)},
		{"sleep without a call", api.ErrKern, waits(10, api.WtSleep, 0, -1)},
		{"a stop within a call", api.ErrKern, waits(10, api.WtStop, 0, api.SysSleep)},
		{"a stop with a channel", api.ErrKern, waits(10, api.WtStop, 3, -1)},
		{"a stop", api.OK, waits(10, api.WtStop, 0, -1)},
		{"a Wait of 4", api.ErrKern, waits(10, 4, 0, -1)},
		{"a Wait of -1", api.ErrKern, waits(10, -1, 0, -1)},
		{"a request with a channel", api.ErrKern, waits(14, api.WtIo, 1, api.SysRead)},
		{"a request of another call", api.ErrKern, waits(14, api.WtIo, 0, api.SysTime)},
		{"a request without a call", api.ErrKern, waits(14, api.WtIo, 0, -1)},
		{"a thread that waits without a request", api.ErrKern, waits(13, api.WtIo, 0, api.SysRead)},
		{"a request of a thread that does not wait", api.ErrKern, waits(14, api.WtStop, 0, -1)},
		{"a request of a thread that sleeps", api.ErrKern, waits(14, api.WtSleep, 0, api.SysSleep)},
	}
	for tid, what := range []string{"runs", "runs with Left 0", "has ended", "is ready"} {
		l = append(l, change{"a channel of one that " + what, api.ErrKern, waits(tid, 0, 1, -1)}, change{"a call of one that " + what, api.ErrKern, waits(tid, 0, 0, 6)}, change{"a call 0 of one that " + what, api.ErrKern, waits(tid, 0, 0, 0)})
		for wait, call := range []int{-1, 6, 8, -1} {
			e := api.ErrKern
			if wait == 0 {
				e = api.OK
			}
			l = append(l, change{fmt.Sprintf("a Wait of %d of one that %s", wait, what), e, waits(tid, wait, 0, call)})
		}
	}
	return append(l, change{"one that is blocked and does not wait", api.ErrKern, waits(9, 0, 0, -1)})
}

func deviceChanges() []change {
	return []change{
		{"a clock less", api.ErrKern, func(k *api.Kern) { k.Clocks = k.Clocks[:3] }},
		{"a clock more", api.ErrKern, func(k *api.Kern) { k.Clocks = append(k.Clocks, api.Clock{Rate: 1}) }},
		{"no clocks", api.ErrKern, func(k *api.Kern) { k.Clocks = nil }},
		{"a Rate of 0", api.ErrKern, func(k *api.Kern) { k.Clocks[2].Rate = 0 }},
		{"a Rate of 10", api.ErrKern, func(k *api.Kern) { k.Clocks[3].Rate = 10 }},
		{"a Now below 0", api.ErrKern, func(k *api.Kern) { k.Clocks[0].Now = -1 }},
		{"a Now behind the end", api.ErrKern, func(k *api.Kern) { k.Clocks[3].Now++ }},
		{"no blocks", api.ErrKern, func(k *api.Kern) {
			k.Disk = api.Disk{}
			k.Threads[14], k.Threads[15] = api.Thread{Pid: 6, Wait: api.WtStop, Sys: -1}, api.Thread{Pid: 7, Wait: api.WtStop, Sys: -1}
		}},
		{"one block", api.OK, func(k *api.Kern) { k.Disk.Blocks, k.Disk.Queue[0].Block = k.Disk.Blocks[:1], 0 }},
		{"17 blocks", api.ErrKern, func(k *api.Kern) { k.Disk.Blocks = append(k.Disk.Blocks, make([]byte, 16)) }},
		{"a block of 15 bytes", api.ErrKern, func(k *api.Kern) { k.Disk.Blocks[15] = make([]byte, 15) }},
		{"a block of 17 bytes", api.ErrKern, func(k *api.Kern) { k.Disk.Blocks[0] = make([]byte, 17) }},
		{"a block of no bytes", api.ErrKern, func(k *api.Kern) { k.Disk.Blocks[3] = nil }},
		{"the other order of requests", api.OK, func(k *api.Kern) { slices.Reverse(k.Disk.Queue) }},
		{"a request twice", api.ErrKern, func(k *api.Kern) { k.Disk.Queue = append(k.Disk.Queue, k.Disk.Queue[0]) }},
		{"a request twice, and another one not", api.ErrKern, func(k *api.Kern) { k.Disk.Queue[1] = k.Disk.Queue[0] }},
		{"a request less", api.ErrKern, func(k *api.Kern) { k.Disk.Queue = k.Disk.Queue[1:] }},
		{"no requests", api.ErrKern, func(k *api.Kern) { k.Disk.Queue = nil }},
		{"many requests", api.ErrKern, func(k *api.Kern) { k.Disk.Queue = slices.Repeat(k.Disk.Queue, 10000) }},
		{"a Tid of 16", api.ErrKern, func(k *api.Kern) { k.Disk.Queue[0].Tid = 16 }},
		{"a Tid of -1", api.ErrKern, func(k *api.Kern) { k.Disk.Queue[1].Tid = -1 }},
		{"a further request of the thread -1", api.ErrKern, func(k *api.Kern) { k.Disk.Queue = append(k.Disk.Queue, api.Request{Tid: -1}) }},
		{"a further request of the thread 16", api.ErrKern, func(k *api.Kern) { k.Disk.Queue = append(k.Disk.Queue, api.Request{Tid: 16}) }},
		{"a further request of a thread that does not wait", api.ErrKern, func(k *api.Kern) { k.Disk.Queue = append(k.Disk.Queue, api.Request{}) }},
		{"two further requests of a thread that does not wait", api.ErrKern, func(k *api.Kern) { k.Disk.Queue = append(k.Disk.Queue, api.Request{}, api.Request{}) }},
		{"three requests of one thread", api.ErrKern, func(k *api.Kern) { k.Disk.Queue = append(k.Disk.Queue, k.Disk.Queue[1], k.Disk.Queue[1]) }},
		{"a Block of 16", api.ErrKern, func(k *api.Kern) { k.Disk.Queue[0].Block = 16 }},
		{"a Block of -1", api.ErrKern, func(k *api.Kern) { k.Disk.Queue[1].Block = -1 }},
		{"a write of one that reads", api.ErrKern, func(k *api.Kern) { k.Disk.Queue[1].Write = true }},
		{"a read of one that writes", api.ErrKern, func(k *api.Kern) { k.Disk.Queue[0].Write = false }},
	}
}

func TestP6_1CheckLimits(t *testing.T) {
	for _, c := range slices.Concat(processChanges(), symbolChanges(), threadChanges(), deviceChanges()) {
		k := full()
		c.do(&k)
		if e := kernel.Check(k); e != c.e || valid(k) != (c.e == api.OK) {
			t.Errorf("Check with %s = %d; want %d", c.what, e, c.e)
		}
	}
}

// disturb changes one field of a state, mostly to a value that it cannot have.
func disturb(source *rand.Rand, k *api.Kern) {
	value := among(source, source.Intn(22)-3, source.Intn(22)-3, among(source, strange...))
	switch source.Intn(8) {
	case 0:
		disturbProcess(source, k, value)
	case 1, 2:
		disturbThread(source, k, value)
	case 3:
		disturbClock(source, k, value)
	case 4, 5:
		disturbDisk(source, k, value)
	case 6:
		if len(k.Sched.Threads) > 0 {
			t := &k.Sched.Threads[source.Intn(len(k.Sched.Threads))]
			*among(source, &t.Pri, &t.Cpu, &t.State, &t.State) = value
		}
	case 7:
		q := &k.Sched.Cpus[source.Intn(len(k.Sched.Cpus))]
		*among(source, &q.Run, &q.Left, &k.Sched.Quantum) = value
	}
}

func disturbProcess(source *rand.Rand, k *api.Kern, value int) {
	p := &k.Procs[source.Intn(len(k.Procs))]
	switch source.Intn(7) {
	case 0:
		p.Name = among(source, "", "a b", "x\x80", strings.Repeat("n", 30+source.Intn(3)), "other")
	case 1:
		p.Space.Perm = append(p.Space.Perm, 0)
	case 2:
		if len(p.Space.Perm) > 0 {
			p.Space.Perm[0] = value
		}
	case 3:
		if len(p.Syms) > 0 {
			s := &p.Syms[source.Intn(len(p.Syms))]
			s.Name = among(source, p.Syms[0].Name, "", "9", "f"+s.Name)
		}
	case 4:
		if len(p.Syms) > 0 {
			s := &p.Syms[source.Intn(len(p.Syms))]
			*among(source, &s.At, &s.Size) += int64(value)
		}
	case 5:
		p.Dead = !p.Dead
	case 6:
		p.Status = int64(value)
	}
}

func disturbThread(source *rand.Rand, k *api.Kern, value int) {
	if len(k.Threads) == 0 {
		return
	}
	tid := source.Intn(len(k.Threads))
	t := &k.Threads[tid]
	switch source.Intn(6) {
	case 0:
		t.Chan = int64(value)
	case 1:
		k.Threads = slices.Delete(k.Threads, tid, tid+1)
	case 2:
		k.Threads = append(k.Threads, *t)
	default:
		*among(source, &t.Pid, &t.Wait, &t.Sys) = among(source, value, source.Intn(4))
	}
}

func disturbClock(source *rand.Rand, k *api.Kern, value int) {
	if len(k.Clocks) == 0 {
		return
	}
	c := &k.Clocks[source.Intn(len(k.Clocks))]
	switch source.Intn(4) {
	case 0:
		c.Rate = int64(value)
	case 1:
		c.Now = int64(value)
	case 2:
		k.Clocks = append(k.Clocks, *c)
	case 3:
		k.Clocks = k.Clocks[1:]
	}
}

func disturbDisk(source *rand.Rand, k *api.Kern, value int) {
	d := &k.Disk
	if source.Intn(3) > 0 && len(d.Queue) > 0 {
		r := &d.Queue[source.Intn(len(d.Queue))]
		switch source.Intn(4) {
		case 0:
			r.Tid = value
		case 1:
			r.Block = value
		case 2:
			r.Write = !r.Write
		case 3:
			r.At = int64(value)
		}
		return
	}
	switch source.Intn(4) {
	case 0:
		d.Blocks = append(d.Blocks, make([]byte, 16))
	case 1:
		d.Blocks = d.Blocks[:len(d.Blocks)/2]
	case 2:
		d.Blocks = append([][]byte{make([]byte, 15+source.Intn(3))}, d.Blocks[min(1, len(d.Blocks)):]...)
	case 3:
		d.Queue = append(d.Queue, api.Request{Tid: source.Intn(16), Write: source.Intn(2) == 0})
	}
}

func TestP6_1CheckChanged(t *testing.T) {
	t.Parallel()
	source, found := random(), map[bool]int{}
	for range 30000 {
		k := randomKern(source)
		if e := kernel.Check(k); e != api.OK || !valid(k) {
			t.Fatalf("Check(%+v) = %d", k, e)
		}
		for range 1 + source.Intn(2) {
			disturb(source, &k)
		}
		should := api.ErrKern
		if valid(k) {
			should = api.OK
		}
		if e := kernel.Check(k); e != should {
			t.Fatalf("Check(%+v) = %d; want %d", k, e, should)
		}
		found[should == api.OK]++
	}
	enough(t, "states that are valid", found[true], 2000)
	enough(t, "states that are not", found[false], 10000)
}

// wantNew returns the first state of a configuration, and whether it has one.
func wantNew(b api.Boot) (api.Kern, bool) {
	if len(b.Rates) < 1 || len(b.Rates) > 4 || len(b.Programs) < 1 || len(b.Programs) > 8 || b.Blocks < 1 || b.Blocks > 16 || b.Quantum < 1 || b.Quantum > 20 {
		return api.Kern{}, false
	}
	k := api.Kern{Sched: api.Sched{Quantum: b.Quantum, Cpus: slices.Repeat([]api.CpuQ{{Run: -1}}, len(b.Rates))}}
	for _, r := range b.Rates {
		k.Clocks = append(k.Clocks, api.Clock{Rate: r})
	}
	for i, p := range b.Programs {
		if p.Pri < 0 || p.Pri > 7 {
			return api.Kern{}, false
		}
		c := i % len(b.Rates)
		k.Procs = append(k.Procs, api.Proc{Name: p.Name, Space: p.Space, Syms: p.Syms})
		k.Threads = append(k.Threads, api.Thread{Pid: i, Sys: -1, Regs: api.Regs{R: [8]int64{7: p.Stack}, Pc: p.Start}})
		k.Sched.Threads = append(k.Sched.Threads, api.Slot{Pri: p.Pri, Cpu: c, State: api.StReady})
		k.Sched.Cpus[c].Ready = append(list(k.Sched.Cpus[c].Ready), i)
	}
	for c := range k.Sched.Cpus {
		slices.SortStableFunc(k.Sched.Cpus[c].Ready, func(x, y int) int { return k.Sched.Threads[y].Pri - k.Sched.Threads[x].Pri })
	}
	for range b.Blocks {
		k.Disk.Blocks = append(k.Disk.Blocks, make([]byte, 16))
	}
	return k, valid(k)
}

func checkNew(t *testing.T, b api.Boot) bool {
	t.Helper()
	want, is := wantNew(b)
	should := api.OK
	if !is {
		want, should = api.Kern{}, api.ErrBoot
	}
	if k, e := kernel.New(b); e != should || !equal(k, want) {
		t.Fatalf("New of %+v = %+v, %d; want %+v, %d", b, k, e, want, should)
	}
	return is
}

func TestP6_1New(t *testing.T) {
	source, found := random(), map[bool]int{}
	for range 4000 {
		b := api.Boot{Blocks: 1 + source.Intn(16), Quantum: 1 + source.Intn(20)}
		for range 1 + source.Intn(4) {
			b.Rates = append(b.Rates, 1+source.Int63n(9))
		}
		for range 1 + source.Intn(8) {
			s, _ := randomSpace(source)
			b.Programs = append(b.Programs, api.Program{Name: "p", Space: s, Syms: randomSyms(source, int64(len(s.Bytes))), Start: randomNumber(source), Stack: randomNumber(source), Pri: source.Intn(8)})
		}
		p := &b.Programs[source.Intn(len(b.Programs))]
		switch source.Intn(14) {
		case 0:
			*among(source, &b.Blocks, &b.Quantum, &p.Pri) = among(source, 0, 8, 16, 17, 20, 21, among(source, strange...))
		case 1:
			b.Rates[0] = among[int64](source, 0, -1, 9, 10, math.MaxInt64)
		case 2:
			b.Rates = among(source, nil, make([]int64, 5), slices.Repeat(b.Rates, 2))
		case 3:
			b.Programs = among(source, nil, slices.Repeat(b.Programs, 2), slices.Repeat(b.Programs, 9))
		case 4:
			p.Name = among(source, "", "a b", strings.Repeat("n", 32))
		case 5:
			p.Space.Bytes = append(p.Space.Bytes, 1)
		case 6:
			p.Syms = append(p.Syms, among(source, api.Sym{Name: "new", At: 100, Size: 1}, api.Sym{Name: "new", At: 5000, Size: 1}))
		}
		found[checkNew(t, b)]++
	}
	enough(t, "configurations", found[true], 500)
	enough(t, "configurations that are none", found[false], 500)
	checkNew(t, api.Boot{})
	checkNew(t, api.Boot{Rates: make([]int64, 100000), Programs: make([]api.Program, 100000), Blocks: math.MaxInt, Quantum: math.MaxInt})
}

// TestP6_1Same compares all pairs of some states, valid or not.
func TestP6_1Same(t *testing.T) {
	source, samples := random(), []api.Kern{{}, {Procs: []api.Proc{}, Threads: []api.Thread{}, Clocks: []api.Clock{}, Disk: api.Disk{Blocks: [][]byte{}, Queue: []api.Request{}}}, {Procs: []api.Proc{{}}}, {Procs: []api.Proc{{Syms: []api.Sym{}}}}, {Disk: api.Disk{Blocks: [][]byte{nil}}}, {Disk: api.Disk{Blocks: [][]byte{{}}}}}
	for range 100 {
		k := randomKern(source)
		samples = append(samples, copied(k))
		disturb(source, &k)
		samples = append(samples, k)
	}
	for _, a := range samples {
		if !kernel.Same(a, copied(a)) {
			t.Fatalf("Same of %+v and its copy is false", a)
		}
		for _, b := range samples {
			if got := kernel.Same(a, b); got != equal(a, b) {
				t.Fatalf("Same(%+v, %+v) = %t", a, b, got)
			}
		}
	}
}

// TestP6_1SameFields checks that each field counts.
func TestP6_1SameFields(t *testing.T) {
	changes := []func(k *api.Kern){
		func(k *api.Kern) { k.Procs = k.Procs[:7] },
		func(k *api.Kern) { k.Procs[7].Name += "x" },
		func(k *api.Kern) { k.Procs[7].Space.Perm[27]++ },
		func(k *api.Kern) { k.Procs[7].Space.Bytes[255]++ },
		func(k *api.Kern) { k.Procs[7].Space.Bytes = k.Procs[7].Space.Bytes[1:] },
		func(k *api.Kern) { k.Procs[1].Syms = k.Procs[1].Syms[1:] },
		func(k *api.Kern) { k.Procs[1].Syms[31].Name += "x" },
		func(k *api.Kern) { k.Procs[1].Syms[31].At++ },
		func(k *api.Kern) { k.Procs[1].Syms[31].Size++ },
		func(k *api.Kern) { k.Procs[7].Dead = true },
		func(k *api.Kern) { k.Procs[7].Status++ },
		func(k *api.Kern) { k.Threads = k.Threads[:15] },
		func(k *api.Kern) { k.Threads[15].Pid++ },
		func(k *api.Kern) { k.Threads[15].Regs.R[7]++ },
		func(k *api.Kern) { k.Threads[15].Regs.Pc++ },
		func(k *api.Kern) { k.Threads[15].Wait++ },
		func(k *api.Kern) { k.Threads[15].Chan++ },
		func(k *api.Kern) { k.Threads[15].Sys++ },
		func(k *api.Kern) { k.Clocks = k.Clocks[:3] },
		func(k *api.Kern) { k.Clocks[3].Now++ },
		func(k *api.Kern) { k.Clocks[3].Rate++ },
		func(k *api.Kern) { k.Sched.Quantum++ },
		func(k *api.Kern) { k.Sched.Threads[15].Pri++ },
		func(k *api.Kern) { k.Sched.Cpus[2].Ready[0]++ },
		func(k *api.Kern) { k.Disk.Blocks = k.Disk.Blocks[:15] },
		func(k *api.Kern) { k.Disk.Blocks[15][15]++ },
		func(k *api.Kern) { k.Disk.Blocks[15] = nil },
		func(k *api.Kern) { k.Disk.Queue = k.Disk.Queue[:1] },
		func(k *api.Kern) { k.Disk.Queue[1].Tid++ },
		func(k *api.Kern) { k.Disk.Queue[1].Block++ },
		func(k *api.Kern) { k.Disk.Queue[1].Write = true },
		func(k *api.Kern) { k.Disk.Queue[1].At++ },
	}
	for i, change := range changes {
		k := full()
		change(&k)
		if kernel.Same(full(), k) || kernel.Same(k, full()) || equal(full(), k) {
			t.Errorf("change %d is not seen", i)
		}
	}
	if !kernel.Same(full(), full()) {
		t.Error("Same of equal states is false")
	}
}
