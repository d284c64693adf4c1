package kernel

import (
	"tapline/api"
	"tapline/mem"
	"tapline/sched"
)

// calls returns the system calls by their numbers.
func calls() []func(m *machine) {
	return []func(m *machine){
		api.SysExit:    (*machine).sysExit,
		api.SysPid:     (*machine).sysPid,
		api.SysTid:     (*machine).sysTid,
		api.SysYield:   (*machine).sysYield,
		api.SysSpawn:   (*machine).sysSpawn,
		api.SysPri:     (*machine).sysPri,
		api.SysSleep:   (*machine).sysSleep,
		api.SysWake:    (*machine).sysWake,
		api.SysRead:    (*machine).sysRead,
		api.SysWrite:   (*machine).sysWrite,
		api.SysTime:    (*machine).sysTime,
		api.SysProtect: (*machine).sysProtect,
		api.SysKill:    (*machine).sysKill,
	}
}

// enter makes the thread call the kernel.
func (m *machine) enter(n int) {
	r := m.Threads[m.tid].Regs.R
	m.call, m.args = n, [3]int64(r[:3])
	m.tell(api.EvEntry, m.tid, int64(n), r[0], r[1], r[2])
	table := calls()
	m.require(within(n, 0, len(table)-1))
	table[n](m)
}

// give makes the system call return to the thread.
func (m *machine) give(result int64) { m.answer(m.tid, m.call, result) }

// require ends the transition with a refusal unless a condition holds.
func (m *machine) require(holds bool) {
	if !holds {
		m.give(-1)
		panic(ended{})
	}
}

// rest makes the thread wait in its system call.
func (m *machine) rest(wait int, channel int64) {
	m.wait(m.tid, wait, channel, m.call)
	m.tell(api.EvOff, m.tid, api.StBlock)
	m.Sched, _ = sched.Block(m.Sched, m.tid)
}

func (m *machine) sysExit() { m.finish(m.tid, m.args[0]) }

func (m *machine) sysPid() { m.give(int64(m.Threads[m.tid].Pid)) }

func (m *machine) sysTid() { m.give(int64(m.tid)) }

func (m *machine) sysTime() { m.give(m.time) }

func (m *machine) sysYield() {
	m.give(0)
	m.Sched, _ = sched.Yield(m.Sched, m.cpu)
}

func (m *machine) sysSpawn() {
	s, tid, e := sched.Add(m.Sched, m.Sched.Threads[m.tid].Pri, m.cpu)
	m.require(e == api.OK)
	m.Sched = s
	m.Threads = append(m.Threads, newThread(m.Threads[m.tid].Pid, m.args[0], m.args[1], m.args[2]))
	m.tell(api.EvSpawn, tid, int64(m.tid))
	m.tellReady(tid)
	m.give(int64(tid))
}

func (m *machine) sysPri() {
	old := m.Sched.Threads[m.tid].Pri
	s, e := sched.SetPri(m.Sched, m.tid, int(m.args[0]))
	m.require(e == api.OK)
	m.Sched = s
	m.give(int64(old))
}

func (m *machine) sysSleep() { m.rest(api.WtSleep, m.args[0]) }

func (m *machine) sysWake() {
	var woken int64
	for tid := range sleepers(m.Kern, m.args[0]) {
		m.tell(api.EvWake, tid, m.args[0])
		m.resume(tid, 0)
		woken++
	}
	m.give(woken)
}

func (m *machine) sysRead() { m.request(false) }

func (m *machine) sysWrite() { m.request(true) }

// request asks the device for the transfer of a block, and waits for it.
func (m *machine) request(write bool) {
	m.require(within(m.args[0], 0, int64(len(m.Disk.Blocks)-1)))
	r := api.Request{Tid: m.tid, Block: int(m.args[0]), Write: write, At: m.args[1]}
	m.require(m.reaches(r))
	m.Disk.Queue = append(m.Disk.Queue, r)
	m.tell(api.EvStart, m.tid, int64(r.Block), flag(write))
	m.rest(api.WtIo, 0)
}

func (m *machine) sysProtect() {
	p := &m.Procs[m.Threads[m.tid].Pid]
	s, e := mem.Protect(p.Space, int(m.args[0]), int(m.args[1]))
	m.require(e == api.OK)
	p.Space = s
	m.give(0)
}

func (m *machine) sysKill() {
	m.require(within(m.args[0], 0, int64(len(m.Procs)-1)))
	pid := int(m.args[0])
	m.require(!m.Procs[pid].Dead)
	m.kill(pid, m.args[1])
	if m.Sched.Threads[m.tid].State != api.StDead {
		m.give(0)
	}
}
