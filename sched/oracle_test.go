package sched_test

import (
	"fmt"
	"math"
	"math/rand"
	"slices"
	"testing"

	"tapline/api"
	"tapline/sched"
)

// What the tests know of the chapter, written without package sched: a scheduler without queues, in which each thread has a mark that orders the ready threads of one priority.

const (
	ready   = api.StReady
	running = api.StRun
	blocked = api.StBlock
	dead    = api.StDead
)

var (
	states  = []int{ready, running, blocked, dead}
	strange = []int{-1, -2, -7, 1 << 31, 1 << 32, 1<<32 + 1, 1<<32 + 2, -1 << 32, math.MaxInt, math.MaxInt - 1, math.MinInt, math.MinInt + 1}
)

func random() *rand.Rand { return rand.New(rand.NewSource(5)) }

// member is a thread of the model.
type member struct{ pri, cpu, state, mark int }

// model is a scheduler; low is less than all marks, high greater.
type model struct {
	left      []int
	threads   []member
	quantum   int
	low, high int
}

func modelOf(s api.Sched) *model {
	m := &model{quantum: s.Quantum, low: -1, high: 1000}
	for _, t := range s.Threads {
		m.threads = append(m.threads, member{pri: t.Pri, cpu: t.Cpu, state: t.State})
	}
	for _, q := range s.Cpus {
		m.left = append(m.left, q.Left)
		for i, thr := range q.Ready {
			m.threads[thr].mark = i
		}
	}
	return m
}

// state returns the state that the model stands for.
func (m *model) state() api.Sched {
	s := api.Sched{Quantum: m.quantum}
	for cpu, left := range m.left {
		s.Cpus = append(s.Cpus, api.CpuQ{Run: m.run(cpu), Left: left, Ready: m.ready(cpu)})
	}
	for _, t := range m.threads {
		s.Threads = append(s.Threads, api.Slot{Pri: t.pri, Cpu: t.cpu, State: t.state})
	}
	return s
}

func (m *model) run(cpu int) int {
	return slices.IndexFunc(m.threads, func(t member) bool { return t.state == running && t.cpu == cpu })
}

func (m *model) ready(cpu int) []int {
	var list []int
	for thr, t := range m.threads {
		if t.state == ready && t.cpu == cpu {
			list = append(list, thr)
		}
	}
	slices.SortFunc(list, func(a, b int) int {
		x, y := m.threads[a], m.threads[b]
		if x.pri != y.pri {
			return y.pri - x.pri
		}
		return x.mark - y.mark
	})
	return list
}

func (m *model) due(cpu int) bool {
	run, list := m.run(cpu), m.ready(cpu)
	switch {
	case len(list) == 0:
		return false
	case run < 0:
		return true
	case m.left[cpu] == 0:
		return m.threads[list[0]].pri >= m.threads[run].pri
	}
	return m.threads[list[0]].pri > m.threads[run].pri
}

func (m *model) last(thr int) {
	m.threads[thr].state, m.threads[thr].mark = ready, m.high
	m.high++
}

func (m *model) first(thr int) {
	m.threads[thr].state, m.threads[thr].mark = ready, m.low
	m.low--
}

func (m *model) stop(thr, state int) {
	if m.threads[thr].state == running {
		m.left[m.threads[thr].cpu] = 0
	}
	m.threads[thr].state = state
}

func (m *model) change(cpu int) {
	run := m.run(cpu)
	if !m.due(cpu) {
		if run >= 0 && m.left[cpu] == 0 {
			m.left[cpu] = m.quantum
		}
		return
	}
	if run >= 0 && m.left[cpu] == 0 {
		m.last(run)
	} else if run >= 0 {
		m.first(run)
	}
	m.threads[m.ready(cpu)[0]].state = running
	m.left[cpu] = m.quantum
}

func (m *model) count(cpu int) int {
	n := len(m.ready(cpu))
	if m.run(cpu) >= 0 {
		n++
	}
	return n
}

func (m *model) steal(cpu int) int {
	if m.count(cpu) > 0 {
		return -1
	}
	for most := len(m.threads); most >= 2; most-- {
		for from := range m.left {
			if m.count(from) == most {
				thr := m.ready(from)[0]
				m.threads[thr].cpu = cpu
				return thr
			}
		}
	}
	return -1
}

// call is a call of a function: name tells which, thr or cpu is its object, and pri a priority if it has one.
type call struct {
	name     string
	thr, cpu int
	pri      int
}

// outcome is what a call returns: the state, and a number or a bool if it returns one.
type outcome struct {
	s   api.Sched
	n   int
	yes bool
	e   api.Errno
}

// do makes a call.
func do(s api.Sched, c call) (o outcome) {
	switch c.name {
	case "Add":
		o.s, o.n, o.e = sched.Add(s, c.pri, c.cpu)
	case "End":
		o.s, o.e = sched.End(s, c.thr)
	case "Block":
		o.s, o.e = sched.Block(s, c.thr)
	case "Wake":
		o.s, o.yes, o.e = sched.Wake(s, c.thr)
	case "Due":
		o.yes = sched.Due(s, c.cpu)
	case "Switch":
		o.s, o.n, o.e = sched.Switch(s, c.cpu)
	case "Tick":
		o.s, o.yes, o.e = sched.Tick(s, c.cpu)
	case "Yield":
		o.s, o.e = sched.Yield(s, c.cpu)
	case "SetPri":
		o.s, o.e = sched.SetPri(s, c.thr, c.pri)
	case "Steal":
		o.s, o.n, o.e = sched.Steal(s, c.cpu)
	default:
		panic(c.name)
	}
	return o
}

// want returns what a call has to return for a valid state.
func want(s api.Sched, c call) outcome { return modelOf(s).do(c) }

// do makes a call of the model, which changes unless the call has an error.
func (m *model) do(c call) outcome {
	switch c.name {
	case "End", "Block", "Wake", "SetPri":
		return m.doThread(c)
	}
	if c.cpu < 0 || c.cpu >= len(m.left) {
		if c.name == "Due" {
			return outcome{}
		}
		return outcome{e: api.ErrCpu}
	}
	return m.doCpu(c)
}

func (m *model) doThread(c call) outcome {
	allowed := map[string][]int{"End": {ready, running, blocked}, "Block": {ready, running}, "Wake": {blocked}, "SetPri": {ready, running, blocked}}
	if c.thr < 0 || c.thr >= len(m.threads) || !slices.Contains(allowed[c.name], m.threads[c.thr].state) {
		return outcome{e: api.ErrThread}
	}
	var o outcome
	switch c.name {
	case "End":
		m.stop(c.thr, dead)
	case "Block":
		m.stop(c.thr, blocked)
	case "Wake":
		m.last(c.thr)
		o.yes = m.due(m.threads[c.thr].cpu)
	case "SetPri":
		if c.pri < 0 || c.pri > 7 {
			return outcome{e: api.ErrArg}
		}
		m.threads[c.thr].pri = c.pri
		if m.threads[c.thr].state == ready {
			m.last(c.thr)
		}
	}
	o.s = m.state()
	return o
}

func (m *model) doCpu(c call) outcome {
	var o outcome
	switch c.name {
	case "Add":
		if c.pri < 0 || c.pri > 7 {
			return outcome{e: api.ErrArg}
		}
		if len(m.threads) >= 16 {
			return outcome{e: api.ErrLong}
		}
		o.n = len(m.threads)
		m.threads = append(m.threads, member{pri: c.pri, cpu: c.cpu})
		m.last(o.n)
	case "Due":
		return outcome{yes: m.due(c.cpu)}
	case "Switch":
		m.change(c.cpu)
		o.n = m.run(c.cpu)
	case "Tick":
		if m.left[c.cpu] > 0 {
			m.left[c.cpu]--
		}
		o.yes = m.due(c.cpu)
	case "Yield":
		if m.run(c.cpu) < 0 {
			return outcome{e: api.ErrCpu}
		}
		m.left[c.cpu] = 0
	case "Steal":
		o.n = m.steal(c.cpu)
	}
	o.s = m.state()
	return o
}

// valid reports whether a state is valid.
func valid(s api.Sched) bool {
	if len(s.Cpus) < 1 || len(s.Cpus) > 4 || len(s.Threads) > 16 || s.Quantum < 1 || s.Quantum > 20 {
		return false
	}
	runs, queues := make([][]int, len(s.Cpus)), make([][]int, len(s.Cpus))
	for thr, t := range s.Threads {
		if t.Pri < 0 || t.Pri > 7 || t.Cpu < 0 || t.Cpu >= len(s.Cpus) || !slices.Contains(states, t.State) {
			return false
		}
		switch t.State {
		case running:
			runs[t.Cpu] = append(runs[t.Cpu], thr)
		case ready:
			queues[t.Cpu] = append(queues[t.Cpu], thr)
		}
	}
	for cpu, q := range s.Cpus {
		sorted := slices.Sorted(slices.Values(q.Ready))
		if !slices.Equal(sorted, queues[cpu]) {
			return false
		}
		for i := range len(q.Ready) - 1 {
			if s.Threads[q.Ready[i]].Pri < s.Threads[q.Ready[i+1]].Pri {
				return false
			}
		}
		idle := len(runs[cpu]) == 0 && q.Run == -1 && q.Left == 0
		busy := len(runs[cpu]) == 1 && q.Run == runs[cpu][0] && q.Left >= 0 && q.Left <= s.Quantum
		if !idle && !busy {
			return false
		}
	}
	return true
}

// equal reports whether two states are equal, nil and empty lists too.
func equal(a, b api.Sched) bool {
	if a.Quantum != b.Quantum || len(a.Cpus) != len(b.Cpus) || len(a.Threads) != len(b.Threads) {
		return false
	}
	for i := range a.Threads {
		if a.Threads[i] != b.Threads[i] {
			return false
		}
	}
	for i, q := range a.Cpus {
		p := b.Cpus[i]
		if q.Run != p.Run || q.Left != p.Left || len(q.Ready) != len(p.Ready) {
			return false
		}
		for j := range q.Ready {
			if q.Ready[j] != p.Ready[j] {
				return false
			}
		}
	}
	return true
}

func same(a, b outcome) bool { return a.n == b.n && a.yes == b.yes && a.e == b.e && equal(a.s, b.s) }

// copied returns a state in memory of its own.
func copied(s api.Sched) api.Sched {
	c := api.Sched{Cpus: slices.Clone(s.Cpus), Threads: slices.Clone(s.Threads), Quantum: s.Quantum}
	for i := range c.Cpus {
		c.Cpus[i].Ready = slices.Clone(c.Cpus[i].Ready)
	}
	return c
}

// calls returns calls of all functions for the threads and processors of a state, and for some that it does not have, with these priorities.
func calls(s api.Sched, pris ...int) []call {
	var list []call
	for thr := -1; thr <= len(s.Threads); thr++ {
		for _, name := range []string{"End", "Block", "Wake"} {
			list = append(list, call{name: name, thr: thr})
		}
		for _, pri := range pris {
			list = append(list, call{name: "SetPri", thr: thr, pri: pri})
		}
	}
	for cpu := -1; cpu <= len(s.Cpus); cpu++ {
		for _, name := range []string{"Due", "Switch", "Tick", "Yield", "Steal"} {
			list = append(list, call{name: name, cpu: cpu})
		}
		for _, pri := range pris {
			list = append(list, call{name: "Add", cpu: cpu, pri: pri})
		}
	}
	return list
}

// ofCpu returns calls with one processor alone: those that name it, and those that name threads of it.
func ofCpu(s api.Sched, cpu int) []call {
	list := []call{{name: "Switch", cpu: cpu}, {name: "Tick", cpu: cpu}, {name: "Yield", cpu: cpu}}
	for thr, t := range s.Threads {
		if t.Cpu == cpu {
			list = append(list, call{name: "Block", thr: thr}, call{name: "End", thr: thr}, call{name: "Wake", thr: thr}, call{name: "SetPri", thr: thr, pri: (t.Pri*3 + thr) % 8})
		}
	}
	return list
}

// all returns all valid states with so many processors and threads, with priorities from 0 to most, and a time slice of 2.
func all(cpus, threads, most int) []api.Sched {
	list := []api.Sched{{Quantum: 2, Cpus: slices.Repeat([]api.CpuQ{{Run: -1}}, cpus)}}
	for thr := range threads {
		var longer []api.Sched
		for _, s := range list {
			for pri := range most + 1 {
				for cpu := range cpus {
					longer = append(longer, withThread(s, thr, pri, cpu)...)
				}
			}
		}
		list = longer
	}
	return list
}

// withThread returns the states that a state with a further thread can be: in each place of its processor.
func withThread(s api.Sched, thr, pri, cpu int) []api.Sched {
	var list []api.Sched
	add := func(state int, change func(q *api.CpuQ)) {
		c := copied(s)
		c.Threads = append(c.Threads, api.Slot{Pri: pri, Cpu: cpu, State: state})
		change(&c.Cpus[cpu])
		if valid(c) {
			list = append(list, c)
		}
	}
	for left := range 3 {
		if s.Cpus[cpu].Run < 0 {
			add(running, func(q *api.CpuQ) { q.Run, q.Left = thr, left })
		}
	}
	for at := range len(s.Cpus[cpu].Ready) + 1 {
		add(ready, func(q *api.CpuQ) { q.Ready = slices.Insert(q.Ready, at, thr) })
	}
	add(blocked, func(*api.CpuQ) {})
	add(dead, func(*api.CpuQ) {})
	return list
}

// few returns all valid states that are small.
func few() []api.Sched {
	return slices.Concat(all(1, 0, 0), all(4, 0, 0), all(1, 1, 7), all(1, 2, 3), all(1, 3, 2), all(2, 2, 1), all(2, 3, 1), all(3, 2, 1))
}

// randomState returns a valid state, whose priorities are close to each other.
func randomState(source *rand.Rand) api.Sched {
	m := &model{left: make([]int, 1+source.Intn(4)), quantum: 1 + source.Intn(1+source.Intn(20))}
	for range source.Intn(17) {
		t := member{pri: 1 + source.Intn(3), cpu: source.Intn(len(m.left)), state: states[source.Intn(3)], mark: source.Int()}
		if source.Intn(8) == 0 {
			t.pri = source.Intn(8)
		}
		if source.Intn(10) == 0 {
			t.state = dead
		}
		if t.state == running && m.run(t.cpu) >= 0 {
			t.state = ready
		}
		if t.state == running {
			m.left[t.cpu] = source.Intn(m.quantum + 1)
		}
		m.threads = append(m.threads, t)
	}
	return m.state()
}

// randomCall returns a call that mostly has no error.
func randomCall(source *rand.Rand, s api.Sched) call {
	names := []string{"Add", "End", "Block", "Block", "Wake", "Wake", "Wake", "Due", "Switch", "Switch", "Switch", "Tick", "Tick", "Tick", "Yield", "SetPri", "Steal"}
	return call{name: names[source.Intn(len(names))], thr: source.Intn(len(s.Threads)+1) - source.Intn(20)/19, cpu: source.Intn(len(s.Cpus)) + source.Intn(20)/19, pri: 2 + source.Intn(3) + 6*(source.Intn(30)/29)}
}

// enough reports a test that tried too few of what it is about.
func enough(t *testing.T, what string, n, least int) {
	t.Helper()
	if n < least {
		t.Errorf("only %d %s", n, what)
	}
}

// check fails unless a call returns what it has to.
func check(t *testing.T, s api.Sched, c call) {
	t.Helper()
	if got, should := do(s, c), want(s, c); !same(got, should) {
		t.Fatalf("%+v of %+v = %+v; want %+v", c, s, got, should)
	}
}

// must returns the state behind a call without an error.
func must(t *testing.T, s api.Sched, c call) api.Sched {
	t.Helper()
	o := do(s, c)
	if o.e != api.OK {
		t.Fatalf("%+v of %+v has the error %d", c, s, o.e)
	}
	return o.s
}

// text writes a processor: Run, Left, Ready.
func text(q api.CpuQ) string { return fmt.Sprint(q.Run, q.Left, q.Ready) }
