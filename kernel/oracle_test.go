package kernel_test

import (
	"math/big"
	"regexp"
	"slices"

	"tapline/api"
	"tapline/cpu"
	"tapline/kernel"
	"tapline/sched"
)

// What the tests know of the chapter, written without package kernel: the numbers of system calls, events and states are those of the tables, and memory is read and written byte by byte.

// model is a kernel at work: the chapter's transitions one after the other, with a log.
type model struct {
	api.Kern
	c   int
	now int64
	log []api.Event
}

// outcome is what a transition returns.
type outcome struct {
	k      api.Kern
	events []api.Event
	e      api.Errno
}

func same(a, b outcome) bool {
	return a.e == b.e && slices.Equal(a.events, b.events) && equal(a.k, b.k)
}

func step(k api.Kern, p api.Pick) (o outcome) {
	o.k, o.events, o.e = kernel.Step(k, p)
	return o
}

func apply(k api.Kern, p api.Pick, e api.Effect) (o outcome) {
	o.k, o.events, o.e = kernel.Apply(k, p, e)
	return o
}

func run(k api.Kern, l []api.Pick) (o outcome) {
	o.k, o.events, o.e = kernel.Run(k, l)
	return o
}

// wantStep returns what Step has to return for a valid state, and wantApply what Apply has to return.
func wantStep(k api.Kern, p api.Pick) outcome { return wantTransition(k, p, nil) }

func wantApply(k api.Kern, p api.Pick, e api.Effect) outcome { return wantTransition(k, p, &e) }

func wantTransition(k api.Kern, p api.Pick, given *api.Effect) outcome {
	if !permitted(k, p) {
		return outcome{e: api.ErrPick}
	}
	m := &model{Kern: copied(k), c: p.Cpu, now: k.Clocks[p.Cpu].Now}
	if m.now+k.Clocks[p.Cpu].Rate > 1<<40 {
		return outcome{e: api.ErrLong}
	}
	if tid := wantExecutes(k, p); tid >= 0 && given != nil {
		if e := wantRefusal(k.Procs[k.Threads[tid].Pid].Space, *given); e != api.OK {
			return outcome{e: e}
		}
	}
	switch p.Kind {
	case 0:
		m.stepOf(given)
	case 1:
		m.event(10, k.Sched.Cpus[p.Cpu].Run, 0)
		m.Sched, _, _ = sched.Tick(m.Sched, m.c)
	case 2:
		m.disk()
	}
	m.Clocks[m.c].Now += m.Clocks[m.c].Rate
	return outcome{k: m.Kern, events: m.log}
}

func permitted(k api.Kern, p api.Pick) bool {
	return p.Cpu >= 0 && p.Cpu < len(k.Clocks) && p.Kind >= 0 && p.Kind <= 2
}

// wantRefusal returns the error of an effect that is given for a space.
func wantRefusal(s api.Space, e api.Effect) api.Errno {
	if len(e.Data) == 0 && e.At != 0 {
		return api.ErrEffect
	}
	if len(e.Data) > 0 && (len(e.Data) > 8 || e.Trap.Kind != 0 || !reachable(s, e.At, len(e.Data), 2)) {
		return api.ErrEffect
	}
	if e.Trap.Kind < 0 || e.Trap.Kind > 5 {
		return api.ErrArg
	}
	return api.OK
}

// wantExecutes returns the thread that executes an instruction in a transition of a valid state.
func wantExecutes(k api.Kern, p api.Pick) int {
	q := k.Sched.Cpus[p.Cpu]
	if p.Kind != 0 || q.Run == -1 {
		return -1
	}
	if len(q.Ready) > 0 {
		first, own := k.Sched.Threads[q.Ready[0]].Pri, k.Sched.Threads[q.Run].Pri
		if first > own || first == own && q.Left == 0 {
			return -1
		}
	}
	return q.Run
}

func (m *model) event(kind, tid int, at int64, args ...int64) {
	e := api.Event{Kind: kind, Cpu: m.c, Time: m.now, Pid: -1, Tid: tid, At: at}
	if tid >= 0 {
		e.Pid = m.Threads[tid].Pid
	}
	copy(e.Args[:], args)
	m.log = append(m.log, e)
}

func (m *model) stepOf(given *api.Effect) {
	if q := m.Sched.Cpus[m.c]; q.Run == -1 && len(q.Ready) == 0 {
		s, u, _ := sched.Steal(m.Sched, m.c)
		m.Sched = s
		if u >= 0 {
			m.event(6, u, 0, int64(m.c), int64(s.Threads[u].Pri))
		}
	}
	t := m.Sched.Cpus[m.c].Run
	if sched.Due(m.Sched, m.c) {
		s, u, _ := sched.Switch(m.Sched, m.c)
		if t >= 0 {
			m.event(5, t, 0, 1)
			m.event(6, t, 0, int64(m.c), int64(s.Threads[t].Pri))
		}
		m.event(4, u, 0, int64(s.Threads[u].Pri))
		m.Sched = s
		return
	}
	if t == -1 {
		return
	}
	if m.Sched.Cpus[m.c].Left == 0 {
		m.Sched.Cpus[m.c].Left = m.Sched.Quantum
	}
	m.instruction(t, given)
}

func (m *model) instruction(t int, given *api.Effect) {
	pid, pc := m.Threads[t].Pid, m.Threads[t].Regs.Pc
	e, _ := cpu.Step(m.Procs[pid].Space, m.Threads[t].Regs)
	if given != nil {
		e = *given
	}
	if e.Trap.Kind >= 2 {
		m.event(13, t, pc, int64(e.Trap.Kind), int64(e.Trap.Fault.Kind), e.Trap.Fault.At)
		m.killed(pid, 128+int64(e.Trap.Kind))
		return
	}
	m.event(1, t, pc, int64(e.Insn.Op))
	copy(m.Procs[pid].Space.Bytes[e.At:], e.Data)
	m.Threads[t].Regs = e.Regs
	if e.Trap.Kind == 1 {
		m.call(t, e.Trap.N)
	}
}

func (m *model) killed(pid int, status int64) {
	for tid := range m.Threads {
		state := m.Sched.Threads[tid].State
		if m.Threads[tid].Pid != pid || state == 4 {
			continue
		}
		m.event(12, tid, 0, status)
		if state == 2 {
			m.event(5, tid, 0, 4)
		}
		m.Sched, _ = sched.End(m.Sched, tid)
		m.Threads[tid].Wait, m.Threads[tid].Chan, m.Threads[tid].Sys = 0, 0, -1
		for i := len(m.Disk.Queue) - 1; i >= 0; i-- {
			if m.Disk.Queue[i].Tid == tid {
				m.Disk.Queue = append(m.Disk.Queue[:i:i], m.Disk.Queue[i+1:]...)
			}
		}
	}
	m.Procs[pid].Dead, m.Procs[pid].Status = true, status
}

func (m *model) returns(t, n int, r int64) {
	m.Threads[t].Regs.R[0] = r
	m.event(3, t, 0, int64(n), r)
}

func (m *model) resumed(u int, r int64) {
	n := m.Threads[u].Sys
	m.Threads[u].Wait, m.Threads[u].Chan, m.Threads[u].Sys = 0, 0, -1
	m.Sched, _, _ = sched.Wake(m.Sched, u)
	m.event(6, u, 0, int64(m.Sched.Threads[u].Cpu), int64(m.Sched.Threads[u].Pri))
	m.returns(u, n, r)
}

func (m *model) blocks(t, wait int, channel int64, n int) {
	m.Threads[t].Wait, m.Threads[t].Chan, m.Threads[t].Sys = wait, channel, n
	m.event(5, t, 0, 3)
	m.Sched, _ = sched.Block(m.Sched, t)
}

func (m *model) disk() {
	if len(m.Disk.Queue) == 0 {
		return
	}
	r := m.Disk.Queue[0]
	m.Disk.Queue = m.Disk.Queue[1:]
	s, block, result := &m.Procs[m.Threads[r.Tid].Pid].Space, m.Disk.Blocks[r.Block], int64(-1)
	switch {
	case r.Write && reachable(*s, r.At, 16, 1):
		copy(block, s.Bytes[r.At:])
		result = 0
	case !r.Write && reachable(*s, r.At, 16, 2):
		copy(s.Bytes[r.At:], block)
		result = 0
	}
	m.event(9, r.Tid, 0, int64(r.Block), one(r.Write))
	m.resumed(r.Tid, result)
}

// call is the chapter's table of system calls.
func (m *model) call(t, n int) {
	r, p := m.Threads[t].Regs.R, m.Threads[t].Pid
	m.event(2, t, 0, int64(n), r[0], r[1], r[2])
	switch n {
	case 0:
		m.event(12, t, 0, r[0])
		m.event(5, t, 0, 4)
		m.Sched, _ = sched.End(m.Sched, t)
		if !m.alive(p) {
			m.Procs[p].Dead, m.Procs[p].Status = true, r[0]
		}
	case 1:
		m.returns(t, n, int64(p))
	case 2:
		m.returns(t, n, int64(t))
	case 3:
		m.returns(t, n, 0)
		m.Sched.Cpus[m.c].Left = 0
	case 4:
		m.spawn(t, p, r)
	case 5:
		old := m.Sched.Threads[t].Pri
		if r[0] < 0 || r[0] > 7 {
			m.returns(t, n, -1)
			return
		}
		m.Sched.Threads[t].Pri = int(r[0])
		m.returns(t, n, int64(old))
	case 6:
		m.blocks(t, 1, r[0], 6)
	case 7:
		m.wake(t, r[0])
	case 8, 9:
		m.transfer(t, n, r)
	case 10:
		m.returns(t, n, m.now)
	case 11:
		m.returns(t, n, m.protect(p, r[0], r[1]))
	case 12:
		m.kill(t, r)
	default:
		m.returns(t, n, -1)
	}
}

func (m *model) alive(pid int) bool {
	for tid, t := range m.Threads {
		if t.Pid == pid && m.Sched.Threads[tid].State != 4 {
			return true
		}
	}
	return false
}

func (m *model) spawn(t, p int, r [8]int64) {
	v := len(m.Threads)
	if v == 16 {
		m.returns(t, 4, -1)
		return
	}
	m.Threads = append(m.Threads, api.Thread{Pid: p, Regs: api.Regs{R: [8]int64{0: r[1], 7: r[2]}, Pc: r[0]}, Sys: -1})
	pri := m.Sched.Threads[t].Pri
	m.Sched, _, _ = sched.Add(m.Sched, pri, m.c)
	m.event(11, v, 0, int64(t))
	m.event(6, v, 0, int64(m.c), int64(pri))
	m.returns(t, 4, int64(v))
}

func (m *model) wake(t int, channel int64) {
	n := 0
	for u := range m.Threads {
		if m.Threads[u].Wait == 1 && m.Threads[u].Chan == channel {
			m.event(7, u, 0, channel)
			m.resumed(u, 0)
			n++
		}
	}
	m.returns(t, 7, int64(n))
}

func (m *model) transfer(t, n int, r [8]int64) {
	perm := map[int]int{8: 2, 9: 1}[n]
	if r[0] < 0 || r[0] >= int64(len(m.Disk.Blocks)) || !reachable(m.Procs[m.Threads[t].Pid].Space, r[1], 16, perm) {
		m.returns(t, n, -1)
		return
	}
	m.Disk.Queue = append(m.Disk.Queue, api.Request{Tid: t, Block: int(r[0]), Write: n == 9, At: r[1]})
	m.event(8, t, 0, r[0], one(n == 9))
	m.blocks(t, 2, 0, n)
}

func (m *model) protect(p int, page, perm int64) int64 {
	s := &m.Procs[p].Space
	if page < 0 || page >= int64(len(s.Perm)) || s.Perm[page] == 4 || perm != 0 && perm != 1 && perm != 3 {
		return -1
	}
	s.Perm[page] = int(perm)
	return 0
}

func (m *model) kill(t int, r [8]int64) {
	if r[0] < 0 || r[0] >= int64(len(m.Procs)) || m.Procs[r[0]].Dead {
		m.returns(t, 12, -1)
		return
	}
	m.killed(int(r[0]), r[1])
	if m.Sched.Threads[t].State != 4 {
		m.returns(t, 12, 0)
	}
}

// reachable reports whether n bytes have a permission: 1 to read, 2 to write.
func reachable(s api.Space, at int64, n, perm int) bool {
	for i := range n {
		here := at + int64(i)
		if here < 0 || here >= int64(len(s.Bytes)) {
			return false
		}
		if page := s.Perm[here/64]; page == 4 || page&perm == 0 {
			return false
		}
	}
	return true
}

func one(b bool) int64 {
	if b {
		return 1
	}
	return 0
}

// wantEnabled returns what Enabled has to return for a valid state.
func wantEnabled(k api.Kern) []api.Pick {
	var list []api.Pick
	for _, p := range picks(k) {
		o := wantStep(k, p)
		if o.e == api.OK && (len(o.events) > 0 || !sameButClock(o.k, k, p.Cpu)) {
			list = append(list, p)
		}
	}
	return list
}

// sameButClock reports whether a state is another one, but for the time of one clock.
func sameButClock(a, b api.Kern, c int) bool {
	a = copied(a)
	a.Clocks[c].Now = b.Clocks[c].Now
	return equal(a, b)
}

// picks returns all picks of a state, in order.
func picks(k api.Kern) []api.Pick {
	var list []api.Pick
	for c := range k.Clocks {
		list = append(list, api.Pick{Cpu: c, Kind: 0}, api.Pick{Cpu: c, Kind: 1}, api.Pick{Cpu: c, Kind: 2})
	}
	return list
}

var (
	processName = regexp.MustCompile(`^[!-~]{1,31}$`)
	symbolName  = regexp.MustCompile(`^[A-Za-z_][A-Za-z_0-9]{0,30}$`)
)

// valid reports whether a state is valid: the chapter's five conditions, in order.
func valid(k api.Kern) bool {
	if len(k.Procs) < 1 || len(k.Procs) > 8 || sched.Check(k.Sched) != api.OK {
		return false
	}
	if len(k.Threads) > 16 || len(k.Sched.Threads) != len(k.Threads) || len(k.Clocks) != len(k.Sched.Cpus) {
		return false
	}
	for _, p := range k.Procs {
		if !validProc(p) {
			return false
		}
	}
	for _, c := range k.Clocks {
		if c.Rate <= 0 || c.Rate > 9 || c.Now < 0 || c.Now > 1<<40 {
			return false
		}
	}
	for tid, t := range k.Threads {
		if t.Pid < 0 || t.Pid >= len(k.Procs) || !validWait(t, k.Sched.Threads[tid].State) {
			return false
		}
	}
	return validDisk(k) && validDeaths(k)
}

func validProc(p api.Proc) bool {
	if !processName.MatchString(p.Name) || len(p.Space.Perm) > 32 || len(p.Space.Bytes) != 64*len(p.Space.Perm) || len(p.Syms) > 32 {
		return false
	}
	for _, perm := range p.Space.Perm {
		if !slices.Contains([]int{0, 1, 3, 4}, perm) {
			return false
		}
	}
	names := map[string]bool{}
	for i, s := range p.Syms {
		names[s.Name] = true
		limit := int64(len(p.Space.Bytes))
		if i+1 < len(p.Syms) {
			limit = min(limit, p.Syms[i+1].At)
		}
		end := new(big.Int).Add(big.NewInt(s.At), big.NewInt(s.Size))
		if !symbolName.MatchString(s.Name) || s.At < 0 || s.Size < 1 || end.Cmp(big.NewInt(limit)) > 0 {
			return false
		}
	}
	return len(names) == len(p.Syms)
}

func validWait(t api.Thread, state int) bool {
	got := api.Thread{Wait: t.Wait, Chan: t.Chan, Sys: t.Sys}
	if state != 3 {
		return got == api.Thread{Sys: -1}
	}
	return got == api.Thread{Wait: 3, Sys: -1} || got == api.Thread{Wait: 2, Sys: 8} || got == api.Thread{Wait: 2, Sys: 9} || got == api.Thread{Wait: 1, Chan: t.Chan, Sys: 6}
}

func validDisk(k api.Kern) bool {
	if len(k.Disk.Blocks) < 1 || len(k.Disk.Blocks) > 16 {
		return false
	}
	for _, b := range k.Disk.Blocks {
		if len(b) != 16 {
			return false
		}
	}
	var have, should []int
	for _, r := range k.Disk.Queue {
		if r.Tid < 0 || r.Tid >= len(k.Threads) || r.Block < 0 || r.Block >= len(k.Disk.Blocks) || r.Write != (k.Threads[r.Tid].Sys == 9) {
			return false
		}
		have = append(have, r.Tid)
	}
	for tid, t := range k.Threads {
		if t.Wait == 2 {
			should = append(should, tid)
		}
	}
	slices.Sort(have)
	return slices.Equal(have, should)
}

func validDeaths(k api.Kern) bool {
	for pid, p := range k.Procs {
		alive := 0
		for tid, t := range k.Threads {
			if t.Pid == pid && k.Sched.Threads[tid].State != 4 {
				alive++
			}
		}
		if p.Dead != (alive == 0) || alive > 0 && p.Status != 0 {
			return false
		}
	}
	return true
}

// equal reports whether two states are equal, nil and empty lists too.
func equal(a, b api.Kern) bool {
	if len(a.Procs) != len(b.Procs) || len(a.Disk.Blocks) != len(b.Disk.Blocks) || len(a.Sched.Cpus) != len(b.Sched.Cpus) {
		return false
	}
	for i, p := range a.Procs {
		q := b.Procs[i]
		if p.Name != q.Name || p.Dead != q.Dead || p.Status != q.Status || !equalSpaces(p.Space, q.Space) || !slices.Equal(p.Syms, q.Syms) {
			return false
		}
	}
	for i, x := range a.Disk.Blocks {
		if !slices.Equal(x, b.Disk.Blocks[i]) {
			return false
		}
	}
	for i, p := range a.Sched.Cpus {
		q := b.Sched.Cpus[i]
		if p.Run != q.Run || p.Left != q.Left || !slices.Equal(p.Ready, q.Ready) {
			return false
		}
	}
	return slices.Equal(a.Threads, b.Threads) && slices.Equal(a.Clocks, b.Clocks) && slices.Equal(a.Disk.Queue, b.Disk.Queue) &&
		a.Sched.Quantum == b.Sched.Quantum && slices.Equal(a.Sched.Threads, b.Sched.Threads)
}

func equalSpaces(a, b api.Space) bool {
	return slices.Equal(a.Perm, b.Perm) && slices.Equal(a.Bytes, b.Bytes)
}

// isZero reports whether a state is the zero value.
func isZero(k api.Kern) bool { return equal(k, api.Kern{}) }

// list returns a copy of a list, in memory of its own.
func list[T any](l []T) []T { return append([]T(nil), l...) }

// copied returns a state in memory of its own.
func copied(k api.Kern) api.Kern {
	k.Procs = list(k.Procs)
	for i := range k.Procs {
		p := &k.Procs[i]
		p.Space, p.Syms = api.Space{Perm: list(p.Space.Perm), Bytes: list(p.Space.Bytes)}, list(p.Syms)
	}
	k.Threads, k.Clocks = list(k.Threads), list(k.Clocks)
	k.Sched.Cpus, k.Sched.Threads = list(k.Sched.Cpus), list(k.Sched.Threads)
	for i := range k.Sched.Cpus {
		k.Sched.Cpus[i].Ready = list(k.Sched.Cpus[i].Ready)
	}
	k.Disk.Blocks, k.Disk.Queue = list(k.Disk.Blocks), list(k.Disk.Queue)
	for i := range k.Disk.Blocks {
		k.Disk.Blocks[i] = list(k.Disk.Blocks[i])
	}
	return k
}
