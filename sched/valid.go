package sched

import (
	"slices"

	"tapline/api"
)

// within reports whether a number is from least to most.
func within(n, least, most int) bool { return least <= n && n <= most }

// isValid reports whether a state is valid.
func isValid(s api.Sched) bool {
	if !within(len(s.Cpus), 1, api.MaxCpus) || len(s.Threads) > api.MaxThreads || !within(s.Quantum, 1, api.MaxQuantum) {
		return false
	}
	for thr, t := range s.Threads {
		if !isSlot(t, len(s.Cpus)) || t.State == api.StRun && s.Cpus[t.Cpu].Run != thr {
			return false
		}
	}
	for cpu := range s.Cpus {
		if !runs(s, cpu) || !queues(s, cpu) {
			return false
		}
	}
	return true
}

// isSlot reports whether a thread can be one of a state with so many processors.
func isSlot(t api.Slot, cpus int) bool {
	return within(t.Pri, 0, api.MaxPri) && within(t.Cpu, 0, cpus-1) && within(t.State, api.StReady, api.StDead)
}

// runs reports whether Run and Left of a processor are those of a valid state.
func runs(s api.Sched, cpu int) bool {
	q := s.Cpus[cpu]
	if q.Run == -1 {
		return q.Left == 0
	}
	if !within(q.Run, 0, len(s.Threads)-1) {
		return false
	}
	t := s.Threads[q.Run]
	return t.State == api.StRun && t.Cpu == cpu && within(q.Left, 0, s.Quantum)
}

// queues reports whether Ready of a processor has exactly its ready threads, each once, by decreasing priority.
func queues(s api.Sched, cpu int) bool {
	ready, n := s.Cpus[cpu].Ready, 0
	for thr, t := range s.Threads {
		if t.State != api.StReady || t.Cpu != cpu {
			continue
		}
		if !slices.Contains(ready, thr) {
			return false
		}
		n++
	}
	// A list that contains n different threads and is not longer has nothing else, and nothing twice.
	return n == len(ready) && slices.IsSortedFunc(ready, func(a, b int) int { return s.Threads[b].Pri - s.Threads[a].Pri })
}
