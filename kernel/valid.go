package kernel

import (
	"cmp"

	"tapline/api"
	"tapline/insn"
	"tapline/mem"
	"tapline/sched"
)

// within reports whether a number is from least to most.
func within[T cmp.Ordered](n, least, most T) bool { return least <= n && n <= most }

// checkIndex tells what is wrong with a state, and then with the index of one of its n processes, threads or processors.
func checkIndex(k api.Kern, index, n int) api.Errno {
	if !isValid(k) {
		return api.ErrKern
	}
	if !within(index, 0, n-1) {
		return api.ErrNone
	}
	return api.OK
}

// isPick reports whether a pick is one of a valid state.
func isPick(k api.Kern, p api.Pick) bool {
	return within(p.Cpu, 0, len(k.Clocks)-1) && within(p.Kind, api.PkStep, api.PkDisk)
}

// isLate reports whether the clock of a processor cannot be advanced.
func isLate(k api.Kern, cpu int) bool {
	return k.Clocks[cpu].Now+k.Clocks[cpu].Rate > api.MaxTime
}

// isValid reports whether a state is valid.
func isValid(k api.Kern) bool {
	if !within(len(k.Procs), 1, api.MaxProcs) || sched.Check(k.Sched) != api.OK {
		return false
	}
	return areThreads(k) && areProcs(k) && areClocks(k) && areBlocks(k.Disk.Blocks) && areRequests(k)
}

func areThreads(k api.Kern) bool {
	if len(k.Threads) != len(k.Sched.Threads) {
		return false
	}
	for tid, t := range k.Threads {
		if !within(t.Pid, 0, len(k.Procs)-1) || !waits(t, k.Sched.Threads[tid].State) {
			return false
		}
	}
	return true
}

// waits reports whether a thread waits as one does that has this state in the scheduler: not at all, unless it is blocked.
func waits(t api.Thread, state int) bool {
	if state != api.StBlock {
		return t.Wait == api.WtNone && t.Chan == 0 && t.Sys == -1
	}
	switch t.Wait {
	case api.WtSleep:
		return t.Sys == api.SysSleep
	case api.WtIo:
		return t.Chan == 0 && (t.Sys == api.SysRead || t.Sys == api.SysWrite)
	case api.WtStop:
		return t.Chan == 0 && t.Sys == -1
	}
	return false
}

func areProcs(k api.Kern) bool {
	for pid, p := range k.Procs {
		if !isName(p.Name) || mem.Check(p.Space) != api.OK || !areSyms(p.Syms, int64(len(p.Space.Bytes))) {
			return false
		}
		if p.Dead == lives(k, pid) || !p.Dead && p.Status != 0 {
			return false
		}
	}
	return true
}

// lives reports whether a process has a thread that has not ended.
func lives(k api.Kern, pid int) bool {
	for range living(k, pid) {
		return true
	}
	return false
}

// isName reports whether a process can have this name.
func isName(text string) bool {
	for i := range len(text) {
		if !within(text[i], 33, 126) {
			return false
		}
	}
	return within(len(text), 1, api.MaxName)
}

// areSyms reports whether a process whose space has so many bytes can have these symbols.
func areSyms(syms []api.Sym, size int64) bool {
	var end int64
	for _, s := range syms {
		// At plus Size could wrap around.
		if s.At < end || s.Size < 1 || s.Size > size-s.At {
			return false
		}
		end = s.At + s.Size
	}
	return areNamed(syms)
}

// areNamed reports whether symbols have different names, and are not too many: if so, a text without instructions could have them all.
func areNamed(syms []api.Sym) bool {
	var list []api.Sym
	for _, s := range syms {
		list = append(list, api.Sym{Name: s.Name})
	}
	_, e := insn.Disassemble(nil, 0, list)
	return e == api.OK
}

func areClocks(k api.Kern) bool {
	for _, c := range k.Clocks {
		if !within(c.Rate, 1, api.MaxRate) || !within(c.Now, 0, api.MaxTime) {
			return false
		}
	}
	return len(k.Clocks) == len(k.Sched.Cpus)
}

func areBlocks(blocks [][]byte) bool {
	for _, b := range blocks {
		if len(b) != api.BlockSize {
			return false
		}
	}
	return within(len(blocks), 1, api.MaxBlocks)
}

// areRequests reports whether the requests are those of the threads that wait for the device, one of each.
func areRequests(k api.Kern) bool {
	requests := make([]int64, len(k.Threads))
	for _, r := range k.Disk.Queue {
		if !within(r.Tid, 0, len(k.Threads)-1) || !within(r.Block, 0, len(k.Disk.Blocks)-1) || r.Write != (k.Threads[r.Tid].Sys == api.SysWrite) {
			return false
		}
		requests[r.Tid]++
	}
	for tid, t := range k.Threads {
		if requests[tid] != flag(t.Wait == api.WtIo) {
			return false
		}
	}
	return true
}
