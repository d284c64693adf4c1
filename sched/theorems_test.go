package sched_test

import (
	"math/rand"
	"slices"
	"testing"

	"tapline/api"
	"tapline/sched"
)

// manyStates returns states of all kinds for the theorems: all small ones, and random ones.
func manyStates() []api.Sched {
	source, list := random(), few()
	for range 4000 {
		list = append(list, randomState(source))
	}
	return list
}

// places returns how often a thread stands somewhere: runs, is ready, or is aside.
func places(s api.Sched, thr int) int {
	n := 0
	for _, q := range s.Cpus {
		if q.Run == thr {
			n++
		}
		for _, x := range q.Ready {
			if x == thr {
				n++
			}
		}
	}
	if state := s.Threads[thr].State; state == blocked || state == dead {
		n++
	}
	return n
}

// TestP5_2Valid checks that each result is valid, and that other threads keep their State.
func TestP5_2Valid(t *testing.T) {
	n := 0
	for _, s := range manyStates() {
		for _, c := range calls(s, 1, 4) {
			o := do(s, c)
			if o.e != api.OK || c.name == "Due" {
				continue
			}
			n++
			if !valid(o.s) || sched.Check(o.s) != api.OK {
				t.Fatalf("%+v of %+v = %+v, which is not valid", c, s, o.s)
			}
			for thr := range o.s.Threads {
				if places(o.s, thr) != 1 {
					t.Fatalf("%+v of %+v = %+v: thread %d stands in %d places", c, s, o.s, thr, places(o.s, thr))
				}
			}
			for thr, old := range s.Threads {
				if old.State != o.s.Threads[thr].State && !mayChange(s, o.s, c, thr) {
					t.Fatalf("%+v of %+v = %+v changes the State of thread %d", c, s, o.s, thr)
				}
			}
		}
	}
	enough(t, "results", n, 100000)
}

// mayChange reports whether a call may change the State of a thread: of the one that it names, or the one that ran, or runs behind it.
func mayChange(s, behind api.Sched, c call, thr int) bool {
	switch c.name {
	case "End", "Block", "Wake", "SetPri":
		return thr == c.thr
	}
	return thr == s.Cpus[c.cpu].Run || thr == behind.Cpus[c.cpu].Run
}

func TestP5_2NewIsValid(t *testing.T) {
	for cpus := 1; cpus <= 4; cpus++ {
		for quantum := 1; quantum <= 20; quantum++ {
			if s, e := sched.New(cpus, quantum); e != api.OK || !valid(s) || sched.Check(s) != api.OK {
				t.Errorf("New(%d, %d) = %v, %d, which is not valid", cpus, quantum, s, e)
			}
		}
	}
}

func TestP5_3Priorities(t *testing.T) {
	runs, idles := 0, 0
	for _, s := range manyStates() {
		for cpu := range s.Cpus {
			behind, run, e := sched.Switch(s, cpu)
			if e != api.OK || sched.Due(behind, cpu) {
				t.Fatalf("Switch(%+v, %d) = %+v, %d: a switch is due", s, cpu, behind, e)
			}
			q := behind.Cpus[cpu]
			if q.Run != run {
				t.Fatalf("Switch(%+v, %d) returns %d; %d runs", s, cpu, run, q.Run)
			}
			if run == -1 {
				idles++
				if len(q.Ready) > 0 {
					t.Fatalf("Switch(%+v, %d) = %+v is idle", s, cpu, behind)
				}
				continue
			}
			runs++
			for _, thr := range q.Ready {
				if behind.Threads[thr].Pri > behind.Threads[run].Pri {
					t.Fatalf("Switch(%+v, %d) = %+v: thread %d has a greater priority", s, cpu, behind, thr)
				}
			}
		}
	}
	enough(t, "switches to a thread", runs, 5000)
	enough(t, "switches to none", idles, 5000)
}

// crowded returns a state with one processor, one that runs at most, and many ready threads of two priorities.
func crowded(source *rand.Rand) api.Sched {
	m := &model{left: []int{0}, quantum: 1 + source.Intn(20)}
	for range 5 + source.Intn(12) {
		m.threads = append(m.threads, member{pri: 3 + source.Intn(4)/3, state: ready, mark: source.Int()})
	}
	if source.Intn(3) > 0 {
		m.threads[0].state, m.left[0] = running, source.Intn(m.quantum+1)
	}
	return m.state()
}

// waits reports whether the thread at an index of Ready is one of which P5.4 speaks.
func waits(s api.Sched, cpu, k int) bool {
	q := s.Cpus[cpu]
	pri := s.Threads[q.Ready[k]].Pri
	return s.Threads[q.Ready[0]].Pri == pri && (q.Run == -1 || s.Threads[q.Run].Pri <= pri)
}

// ticksUntil returns after how many ticks a thread runs on a processor, at most a limit.
func ticksUntil(t *testing.T, s api.Sched, cpu, thr, limit int) int {
	t.Helper()
	if s.Cpus[cpu].Run == -1 {
		s = must(t, s, call{name: "Switch", cpu: cpu})
	}
	n := 0
	for ; s.Cpus[cpu].Run != thr && n <= limit; n++ {
		o := do(s, call{name: "Tick", cpu: cpu})
		s = o.s
		if o.yes {
			s = must(t, s, call{name: "Switch", cpu: cpu})
		}
	}
	return n
}

func TestP5_4BoundedWaiting(t *testing.T) {
	source, list := random(), manyStates()
	for range 200 {
		list = append(list, crowded(source))
	}
	n, deep, exact := 0, 0, 0
	for _, s := range list {
		for cpu, q := range s.Cpus {
			for k, thr := range q.Ready {
				if !waits(s, cpu, k) {
					continue
				}
				n++
				if k >= 3 {
					deep++
				}
				limit := (k + 1) * s.Quantum
				ticks := ticksUntil(t, s, cpu, thr, limit)
				if ticks > limit {
					t.Fatalf("thread %d of %+v does not run within %d ticks", thr, s, limit)
				}
				if ticks == limit {
					exact++
				}
			}
		}
	}
	enough(t, "threads that wait", n, 5000)
	enough(t, "threads that wait behind several", deep, 200)
	enough(t, "threads that wait as long as can be", exact, 200)
}

// line is a line of threads of one priority on a processor, as P5.5 tells of it.
type line struct {
	pri  int
	list []int
}

// before notes what a call is going to do to the line.
func (l *line) before(s api.Sched, c call) {
	run := s.Cpus[0].Run
	switch {
	case c.name == "Wake":
		if s.Threads[c.thr].Pri == l.pri {
			l.list = append(l.list, c.thr)
		}
	case c.name == "Switch" && run != -1 && s.Threads[run].Pri == l.pri && sched.Due(s, 0):
		if s.Cpus[0].Left == 0 {
			l.list = append(l.list, run)
		} else {
			l.list = slices.Insert(l.list, 0, run)
		}
	}
}

// TestP5_5Fairness has threads of two priorities, wakes and blocks those that wait and run, and checks the order in which the lesser ones run.
func TestP5_5Fairness(t *testing.T) {
	source, turns, preempted := random(), 0, 0
	for range 400 {
		s, _ := sched.New(1, 1+source.Intn(4))
		l := line{pri: 3}
		for thr := range 8 {
			s = must(t, s, call{name: "Add", pri: 3 + thr/5*2})
			s = must(t, s, call{name: "Block", thr: thr})
		}
		for range 300 {
			c, ok := nextCall(source, s)
			if !ok {
				continue
			}
			l.before(s, c)
			ran, left := s.Cpus[0].Run, s.Cpus[0].Left
			s = must(t, s, c)
			run := s.Cpus[0].Run
			if run == ran || run == -1 {
				continue
			}
			if ran != -1 && s.Threads[ran].Pri == l.pri && s.Threads[run].Pri > l.pri && left > 0 {
				preempted++
			}
			if s.Threads[run].Pri != l.pri {
				continue
			}
			turns++
			if l.list[0] != run {
				t.Fatalf("%d runs; the line is %v; %+v", run, l.list, s)
			}
			l.list = l.list[1:]
		}
	}
	enough(t, "turns", turns, 3000)
	enough(t, "preempted threads", preempted, 500)
}

// nextCall returns a call that wakes a thread, blocks the one that runs, or lets time pass.
func nextCall(source *rand.Rand, s api.Sched) (call, bool) {
	thr, run := source.Intn(len(s.Threads)), s.Cpus[0].Run
	switch source.Intn(7) {
	case 0, 1:
		return call{name: "Wake", thr: thr}, s.Threads[thr].State == blocked
	case 2:
		return call{name: "Block", thr: run}, run != -1
	case 3, 4:
		return call{name: "Tick"}, true
	}
	return call{name: "Switch"}, true
}

// TestP5_5Preempted checks that a thread that a greater one interrupts goes on before the others of its priority.
func TestP5_5Preempted(t *testing.T) {
	for quantum := 1; quantum <= 20; quantum++ {
		for ticks := range quantum {
			s, _ := sched.New(1, quantum)
			for _, c := range []call{{name: "Add", pri: 2}, {name: "Add", pri: 2}, {name: "Add", pri: 2}, {name: "Switch"}} {
				s = must(t, s, c)
			}
			for range ticks {
				s = must(t, s, call{name: "Tick"})
			}
			for _, c := range []call{{name: "Add", pri: 3}, {name: "Switch"}, {name: "Add", pri: 2}, {name: "Block", thr: 3}, {name: "Switch"}} {
				s = must(t, s, c)
			}
			if got := text(s.Cpus[0]); s.Cpus[0].Run != 0 || !slices.Equal(s.Cpus[0].Ready, []int{1, 2, 4}) {
				t.Errorf("Quantum %d, %d ticks: %q", quantum, ticks, got)
			}
		}
	}
}

func TestP5_6Independence(t *testing.T) {
	source, pairs := random(), map[[2]string]int{}
	for _, s := range manyStates() {
		for a := range s.Cpus {
			for b := range a {
				first, second := ofCpu(s, a), ofCpu(s, b)
				for range 12 {
					c, d := first[source.Intn(len(first))], second[source.Intn(len(second))]
					pairs[[2]string{c.name, d.name}] += commute(t, s, c, d)
				}
			}
		}
	}
	names := []string{"Block", "End", "Wake", "SetPri", "Switch", "Tick", "Yield"}
	for _, a := range names {
		for _, b := range names {
			enough(t, "pairs of "+a+" and "+b, pairs[[2]string{a, b}], 200)
		}
	}
}

// commute checks that two calls have the same results in either order, and returns 1 if both are without an error.
func commute(t *testing.T, s api.Sched, c, d call) int {
	t.Helper()
	c1, d1 := do(s, c), do(s, d)
	if c1.e != api.OK || d1.e != api.OK {
		// One that is refused has no state behind it; the other one does not change that.
		if c1.e == api.OK && do(c1.s, d).e != d1.e || d1.e == api.OK && do(d1.s, c).e != c1.e {
			t.Fatalf("%+v and %+v of %+v: one changes the error of the other", c, d, s)
		}
		return 0
	}
	d2, c2 := do(c1.s, d), do(d1.s, c)
	if !equal(c2.s, d2.s) || c1.n != c2.n || d1.n != d2.n || c1.yes != c2.yes || d1.yes != d2.yes {
		t.Fatalf("%+v and %+v of %+v do not commute: %+v, %+v", c, d, s, d2, c2)
	}
	return 1
}

func TestP5_7WorkConservation(t *testing.T) {
	stolen, several := 0, 0
	for _, s := range manyStates() {
		before := stolen
		behind := s
		for cpu := range s.Cpus {
			o := do(behind, call{name: "Steal", cpu: cpu})
			if o.e != api.OK {
				t.Fatalf("Steal(%+v, %d) has the error %d", behind, cpu, o.e)
			}
			if o.n != -1 {
				stolen++
			}
			behind = o.s
		}
		if stolen > before+1 {
			several++
		}
		idle, waiting := false, false
		for cpu := range s.Cpus {
			behind = must(t, behind, call{name: "Switch", cpu: cpu})
		}
		for _, q := range behind.Cpus {
			idle = idle || q.Run == -1
			waiting = waiting || len(q.Ready) > 0
		}
		if idle && waiting {
			t.Fatalf("%+v becomes %+v: a processor is idle", s, behind)
		}
	}
	enough(t, "threads that are taken", stolen, 1000)
	enough(t, "states with several", several, 50)
}

// TestP5_8WakeAfterBlock checks that a ready thread that is blocked and woken stands behind all of its priority.
func TestP5_8WakeAfterBlock(t *testing.T) {
	n := 0
	for _, s := range manyStates() {
		for thr, slot := range s.Threads {
			if slot.State != ready {
				continue
			}
			n++
			behind := must(t, must(t, s, call{name: "Block", thr: thr}), call{name: "Wake", thr: thr})
			queue := s.Cpus[slot.Cpu].Ready
			at := slices.Index(queue, thr)
			last := at
			for last+1 < len(queue) && s.Threads[queue[last+1]].Pri == slot.Pri {
				last++
			}
			should := copied(s)
			should.Cpus[slot.Cpu].Ready = slices.Concat(queue[:at], queue[at+1:last+1], []int{thr}, queue[last+1:])
			if !equal(behind, should) {
				t.Fatalf("Block and Wake of thread %d of %+v: %+v; want %+v", thr, s, behind, should)
			}
		}
	}
	enough(t, "ready threads", n, 5000)
}

// TestP5_8SetPriOfLast checks that the last thread of a priority stays where it is.
func TestP5_8SetPriOfLast(t *testing.T) {
	n := 0
	for _, s := range manyStates() {
		for _, q := range s.Cpus {
			for i, thr := range q.Ready {
				pri := s.Threads[thr].Pri
				if i+1 < len(q.Ready) && s.Threads[q.Ready[i+1]].Pri == pri {
					continue
				}
				n++
				if behind := must(t, s, call{name: "SetPri", thr: thr, pri: pri}); !equal(behind, s) {
					t.Fatalf("SetPri of thread %d of %+v to its priority: %+v", thr, s, behind)
				}
			}
		}
	}
	enough(t, "last threads", n, 5000)
}

func TestP5_8EndAfterBlock(t *testing.T) {
	n := 0
	for _, s := range manyStates() {
		for thr, slot := range s.Threads {
			if slot.State != ready && slot.State != running {
				continue
			}
			n++
			ended, both := must(t, s, call{name: "End", thr: thr}), must(t, must(t, s, call{name: "Block", thr: thr}), call{name: "End", thr: thr})
			if !equal(ended, both) {
				t.Fatalf("End of thread %d of %+v: %+v; behind Block: %+v", thr, s, ended, both)
			}
		}
	}
	enough(t, "threads", n, 5000)
}
