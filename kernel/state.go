package kernel

import (
	"bytes"
	"slices"

	"tapline/api"
	"tapline/mem"
	"tapline/sched"
)

// begun returns the first state of a configuration: it is valid if the configuration is.
func begun(b api.Boot) api.Kern {
	s, e := sched.New(len(b.Rates), b.Quantum)
	// So many blocks might not fit into memory.
	if e != api.OK || b.Blocks > api.MaxBlocks {
		return api.Kern{}
	}
	k := api.Kern{Sched: s}
	for i, p := range b.Programs {
		// With an error there is no state of the scheduler that is valid.
		k.Sched, _, _ = sched.Add(k.Sched, p.Pri, i%len(b.Rates))
		k.Procs = append(k.Procs, api.Proc{Name: p.Name, Space: p.Space, Syms: p.Syms})
		k.Threads = append(k.Threads, newThread(i, p.Start, 0, p.Stack))
	}
	for _, rate := range b.Rates {
		k.Clocks = append(k.Clocks, api.Clock{Rate: rate})
	}
	for range b.Blocks {
		k.Disk.Blocks = append(k.Disk.Blocks, make([]byte, api.BlockSize))
	}
	return k
}

// newThread returns a thread of a process that begins at an address, with an argument and a stack pointer.
func newThread(pid int, start, argument, stack int64) api.Thread {
	t := api.Thread{Pid: pid, Regs: api.Regs{Pc: start}, Sys: -1}
	t.Regs.R[0], t.Regs.R[api.SP] = argument, stack
	return t
}

// copied returns a state in memory of its own.
func copied(k api.Kern) api.Kern {
	c := api.Kern{Procs: slices.Clone(k.Procs), Threads: slices.Clone(k.Threads), Clocks: slices.Clone(k.Clocks), Sched: k.Sched}
	for i := range c.Procs {
		c.Procs[i].Space, c.Procs[i].Syms = copiedSpace(k.Procs[i].Space), slices.Clone(k.Procs[i].Syms)
	}
	c.Sched.Cpus, c.Sched.Threads = slices.Clone(k.Sched.Cpus), slices.Clone(k.Sched.Threads)
	for i := range c.Sched.Cpus {
		c.Sched.Cpus[i].Ready = slices.Clone(k.Sched.Cpus[i].Ready)
	}
	c.Disk.Blocks, c.Disk.Queue = slices.Clone(k.Disk.Blocks), slices.Clone(k.Disk.Queue)
	for i := range c.Disk.Blocks {
		c.Disk.Blocks[i] = bytes.Clone(k.Disk.Blocks[i])
	}
	return c
}

func copiedSpace(s api.Space) api.Space {
	return api.Space{Perm: slices.Clone(s.Perm), Bytes: bytes.Clone(s.Bytes)}
}

// permits reports whether a valid space permits an access to n bytes.
func permits(s api.Space, at int64, n, perm int) bool {
	f, _ := mem.Access(s, at, n, perm)
	return f.Kind == api.FtNone
}
