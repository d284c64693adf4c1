package kernel

import (
	"iter"
	"slices"

	"tapline/api"
	"tapline/cpu"
	"tapline/mem"
	"tapline/sched"
)

// machine is a copy of a valid state, on which one processor makes a transition. With such a state the functions of lower layers have no errors, but where one is looked at.
type machine struct {
	api.Kern
	cpu    int
	time   int64 // the processor's clock ahead of the transition
	tid    int   // the thread that executes an instruction
	call   int   // the number of its system call, and the arguments
	args   [3]int64
	effect executor
	events chan<- api.Event
}

// executor returns the effect of the instruction that a thread executes.
type executor func(api.Space, api.Regs) (api.Effect, api.Errno)

// ended is what a transition that ends early panics with.
type ended struct{}

func machineOf(k api.Kern) *machine { return &machine{Kern: copied(k)} }

// transition makes a transition, which may not be late, and returns its events in order.
func (m *machine) transition(p api.Pick, effect executor) []api.Event {
	clock := &m.Clocks[p.Cpu]
	m.cpu, m.time, m.effect = p.Cpu, clock.Now, effect
	list := m.during(func() {
		switch p.Kind {
		case api.PkStep:
			m.step()
		case api.PkTimer:
			m.tick()
		case api.PkDisk:
			m.serve()
		}
	})
	clock.Now += clock.Rate
	return list
}

// during does work on the machine, and returns the events that it sends.
func (m *machine) during(work func()) []api.Event {
	events := make(chan api.Event)
	m.events = events
	go func() {
		defer close(events)
		tillEnded(work)
	}()
	var list []api.Event
	for e := range events {
		list = append(list, e)
	}
	return list
}

// tillEnded does work that may end early.
func tillEnded(work func()) {
	defer func() {
		switch r := recover().(type) {
		case nil, ended:
		default:
			panic(r)
		}
	}()
	work()
}

// tell sends an event about a thread (-1: none).
func (m *machine) tell(kind, tid int, args ...int64) { m.tellAt(0, kind, tid, args...) }

// tellAt sends an event that has an address.
func (m *machine) tellAt(at int64, kind, tid int, args ...int64) {
	e := api.Event{Kind: kind, Cpu: m.cpu, Time: m.time, Pid: -1, Tid: tid, At: at}
	if tid != -1 {
		e.Pid = m.Threads[tid].Pid
	}
	copy(e.Args[:], args)
	m.events <- e
}

// tellReady sends the event that a thread stands in the run queue of its processor.
func (m *machine) tellReady(tid int) {
	t := m.Sched.Threads[tid]
	m.tell(api.EvEnqueue, tid, int64(t.Cpu), int64(t.Pri))
}

// tick is a timer interrupt.
func (m *machine) tick() {
	m.tell(api.EvTick, m.Sched.Cpus[m.cpu].Run)
	m.Sched, _, _ = sched.Tick(m.Sched, m.cpu)
}

// step executes an instruction, or dispatches a thread.
func (m *machine) step() {
	m.steal()
	ran, due := m.Sched.Cpus[m.cpu].Run, sched.Due(m.Sched, m.cpu)
	// If no switch is due, this only begins a time slice anew that is used up.
	m.Sched, m.tid, _ = sched.Switch(m.Sched, m.cpu)
	switch {
	case due:
		m.tellSwitch(ran)
	case m.tid != -1:
		m.execute()
	}
}

// steal takes a thread of another processor, if there is no other work.
func (m *machine) steal() {
	s, taken, _ := sched.Steal(m.Sched, m.cpu)
	m.Sched = s
	if taken != -1 {
		m.tellReady(taken)
	}
}

// tellSwitch sends the events of a switch from a thread (-1: none) to the one that runs now.
func (m *machine) tellSwitch(ran int) {
	if ran != -1 {
		m.tell(api.EvOff, ran, api.StReady)
		m.tellReady(ran)
	}
	m.tell(api.EvOn, m.tid, int64(m.Sched.Threads[m.tid].Pri))
}

// execute makes the thread execute an instruction.
func (m *machine) execute() {
	t := &m.Threads[m.tid]
	p := &m.Procs[t.Pid]
	e, _ := m.effect(p.Space, t.Regs)
	if e.Trap.Kind != api.TrNone && e.Trap.Kind != api.TrSys {
		m.tellAt(t.Regs.Pc, api.EvFault, m.tid, int64(e.Trap.Kind), int64(e.Trap.Fault.Kind), e.Trap.Fault.At)
		m.kill(t.Pid, int64(128+e.Trap.Kind))
		return
	}
	m.tellAt(t.Regs.Pc, api.EvInsn, m.tid, int64(e.Insn.Op))
	p.Space, _ = cpu.Apply(p.Space, e)
	t.Regs = e.Regs
	if e.Trap.Kind == api.TrSys {
		m.enter(e.Trap.N)
	}
}

// serve is an interrupt of the device: it is done with its first request.
func (m *machine) serve() {
	if len(m.Disk.Queue) == 0 {
		return
	}
	r := m.Disk.Queue[0]
	m.Disk.Queue = slices.Delete(m.Disk.Queue, 0, 1)
	result := int64(-1)
	if m.reaches(r) {
		m.transfer(r)
		result = 0
	}
	m.tell(api.EvDone, r.Tid, int64(r.Block), flag(r.Write))
	m.resume(r.Tid, result)
}

// reaches reports whether the memory of a request can be read or written as it has to be.
func (m *machine) reaches(r api.Request) bool {
	perm := api.PmWrite
	if r.Write {
		perm = api.PmRead
	}
	return permits(m.Procs[m.Threads[r.Tid].Pid].Space, r.At, api.BlockSize, perm)
}

// transfer copies the bytes of a request that reaches its memory.
func (m *machine) transfer(r api.Request) {
	p := &m.Procs[m.Threads[r.Tid].Pid]
	if r.Write {
		m.Disk.Blocks[r.Block], _, _ = mem.Peek(p.Space, r.At, api.BlockSize)
	} else {
		p.Space, _, _ = mem.Poke(p.Space, r.At, m.Disk.Blocks[r.Block])
	}
}

// resume makes a thread ready that waits in a system call, which returns a result.
func (m *machine) resume(tid int, result int64) {
	call := m.Threads[tid].Sys
	m.wait(tid, api.WtNone, 0, -1)
	m.Sched, _, _ = sched.Wake(m.Sched, tid)
	m.tellReady(tid)
	m.answer(tid, call, result)
}

// answer makes a system call return.
func (m *machine) answer(tid, call int, result int64) {
	m.Threads[tid].Regs.R[0] = result
	m.tell(api.EvReturn, tid, int64(call), result)
}

// wait sets why a thread waits.
func (m *machine) wait(tid, wait int, channel int64, call int) {
	t := &m.Threads[tid]
	t.Wait, t.Chan, t.Sys = wait, channel, call
}

// kill ends all threads of a process.
func (m *machine) kill(pid int, status int64) {
	for tid := range living(m.Kern, pid) {
		m.finish(tid, status)
	}
}

// finish ends a thread, and with the last one its process.
func (m *machine) finish(tid int, status int64) {
	m.tell(api.EvExit, tid, status)
	if m.Sched.Threads[tid].State == api.StRun {
		m.tell(api.EvOff, tid, api.StDead)
	}
	m.Sched, _ = sched.End(m.Sched, tid)
	m.wait(tid, api.WtNone, 0, -1)
	m.Disk.Queue = slices.DeleteFunc(m.Disk.Queue, func(r api.Request) bool { return r.Tid == tid })
	pid := m.Threads[tid].Pid
	if !lives(m.Kern, pid) {
		m.Procs[pid].Dead, m.Procs[pid].Status = true, status
	}
}

// threads returns the numbers of the threads for which something holds, in increasing order.
func threads(k api.Kern, holds func(tid int) bool) iter.Seq[int] {
	return func(yield func(int) bool) {
		for tid := range k.Threads {
			if holds(tid) && !yield(tid) {
				return
			}
		}
	}
}

// living returns the threads of a process that have not ended.
func living(k api.Kern, pid int) iter.Seq[int] {
	return threads(k, func(tid int) bool { return k.Threads[tid].Pid == pid && k.Sched.Threads[tid].State != api.StDead })
}

// sleepers returns the threads that sleep on a channel.
func sleepers(k api.Kern, channel int64) iter.Seq[int] {
	return threads(k, func(tid int) bool { return k.Threads[tid].Wait == api.WtSleep && k.Threads[tid].Chan == channel })
}

// flag returns 1 for true.
func flag(b bool) int64 {
	if b {
		return 1
	}
	return 0
}
