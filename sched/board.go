package sched

import (
	"slices"

	"tapline/api"
)

// board is a copy of a state, which one operation changes.
type board struct{ api.Sched }

// refusal is the error of an operation that leaves by a panic.
type refusal api.Errno

// place puts a thread, which stands nowhere, somewhere on the board over which the place is closed.
type place func(thr int)

// operate returns the state behind work on a copy of a valid state, or the error by which work left.
func operate(s api.Sched, work func(b *board)) (behind api.Sched, e api.Errno) {
	defer func() {
		switch r := recover().(type) {
		case nil:
		case refusal:
			e = api.Errno(r)
		default:
			panic(r)
		}
	}()
	b := boardOf(s)
	work(b)
	return b.Sched, api.OK
}

// boardOf returns a copy of a state, which has to be valid.
func boardOf(s api.Sched) *board {
	require(isValid(s), api.ErrSched)
	b := &board{api.Sched{Cpus: slices.Clone(s.Cpus), Threads: slices.Clone(s.Threads), Quantum: s.Quantum}}
	for i := range b.Cpus {
		b.Cpus[i].Ready = slices.Clone(b.Cpus[i].Ready)
	}
	return b
}

// require ends an operation with an error unless a condition holds.
func require(holds bool, e api.Errno) {
	if !holds {
		panic(refusal(e))
	}
}

// processor returns the processor of this number.
func (b *board) processor(cpu int) *api.CpuQ {
	require(within(cpu, 0, len(b.Cpus)-1), api.ErrCpu)
	return &b.Cpus[cpu]
}

// thread returns the thread of this number, which has to be in one of these states.
func (b *board) thread(thr int, states ...int) *api.Slot {
	require(within(thr, 0, len(b.Threads)-1), api.ErrThread)
	t := &b.Threads[thr]
	require(slices.Contains(states, t.State), api.ErrThread)
	return t
}

// move takes a thread from where it stands to a place.
func (b *board) move(thr int, to place) {
	t := b.Threads[thr]
	q := &b.Cpus[t.Cpu]
	switch t.State {
	case api.StReady:
		q.Ready = list[int](q.Ready).without(thr)
	case api.StRun:
		q.Run, q.Left = -1, 0
	}
	to(thr)
}

// aside returns the place of threads that wait or have ended: nowhere.
func (b *board) aside(state int) place {
	return func(thr int) { b.Threads[thr].State = state }
}

// running returns the place of the thread that runs on a processor, with a whole time slice.
func (b *board) running(cpu int) place {
	return func(thr int) {
		b.Threads[thr].State = api.StRun
		b.Cpus[cpu].Run, b.Cpus[cpu].Left = thr, b.Quantum
	}
}

// end returns the place behind all threads of a processor's Ready that have at least the priority of the one that comes.
func (b *board) end(cpu int) place {
	return b.ready(cpu, func(other, own int) bool { return other >= own })
}

// front returns the place behind those that have a greater priority alone.
func (b *board) front(cpu int) place {
	return b.ready(cpu, func(other, own int) bool { return other > own })
}

// ready returns the place in a processor's Ready behind the threads whose priority keeps them ahead of the one that comes.
func (b *board) ready(cpu int, ahead func(other, own int) bool) place {
	return func(thr int) {
		t, q := &b.Threads[thr], &b.Cpus[cpu]
		t.State, t.Cpu = api.StReady, cpu
		q.Ready = list[int](q.Ready).insert(thr, func(other int) bool { return ahead(b.Threads[other].Pri, t.Pri) })
	}
}

// due reports whether a switch is due on a processor.
func (b *board) due(cpu int) bool {
	q := b.Cpus[cpu]
	if len(q.Ready) == 0 || q.Run == -1 {
		return len(q.Ready) > 0
	}
	first, run := b.Threads[q.Ready[0]].Pri, b.Threads[q.Run].Pri
	return first > run || q.Left == 0 && first >= run
}

// dispatch makes the switch that is due on a processor.
func (b *board) dispatch(cpu int) {
	q := &b.Cpus[cpu]
	if q.Run != -1 {
		to := b.front(cpu)
		if q.Left == 0 {
			to = b.end(cpu)
		}
		b.move(q.Run, to)
	}
	b.move(q.Ready[0], b.running(cpu))
}

// fullest returns the first processor of those with the most threads, and how many it has.
func (b *board) fullest() (cpu, most int) {
	for i, q := range b.Cpus {
		if n := members(q); n > most {
			cpu, most = i, n
		}
	}
	return cpu, most
}

// members returns how many threads run or are ready on a processor.
func members(q api.CpuQ) int {
	if q.Run == -1 {
		return len(q.Ready)
	}
	return 1 + len(q.Ready)
}
