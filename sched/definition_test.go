package sched_test

import (
	"slices"
	"testing"

	"tapline/api"
	"tapline/sched"
)

// P5.1: each function as the chapter describes it.

func TestP5_1AllSmallStates(t *testing.T) {
	n := 0
	for _, s := range few() {
		for _, c := range calls(s, -1, 0, 1, 2, 7, 8) {
			check(t, s, c)
			n++
		}
	}
	enough(t, "calls", n, 500000)
}

func TestP5_1RandomStates(t *testing.T) {
	source, full := random(), 0
	for range 3000 {
		s := randomState(source)
		for _, c := range calls(s, 0, 2, 3, 7, 8) {
			check(t, s, c)
		}
		if len(s.Threads) == 16 {
			full++
		}
	}
	enough(t, "states with 16 threads", full, 50)
}

// TestP5_1Runs checks long sequences of calls: the model is carried along, and not made anew of the states.
func TestP5_1Runs(t *testing.T) {
	source, moved := random(), map[string]int{}
	for range 300 {
		s, e := sched.New(1+source.Intn(4), 1+source.Intn(5))
		if e != api.OK {
			t.Fatalf("New has the error %d", e)
		}
		m := modelOf(s)
		for range 300 {
			c := randomCall(source, s)
			got, should := do(s, c), m.do(c)
			if !same(got, should) {
				t.Fatalf("%+v of %+v = %+v; want %+v", c, s, got, should)
			}
			if got.e == api.OK && c.name != "Due" {
				s = got.s
				moved[c.name]++
			}
		}
	}
	for _, name := range []string{"Add", "End", "Block", "Wake", "Switch", "Tick", "Yield", "SetPri", "Steal"} {
		enough(t, "calls of "+name+" without an error", moved[name], 500)
	}
}

func TestP5_1New(t *testing.T) {
	for cpus := -1; cpus <= 6; cpus++ {
		for quantum := -1; quantum <= 22; quantum++ {
			got, e := sched.New(cpus, quantum)
			want, should := api.Sched{}, api.ErrArg
			if cpus >= 1 && cpus <= 4 && quantum >= 1 && quantum <= 20 {
				want, should = api.Sched{Cpus: slices.Repeat([]api.CpuQ{{Run: -1}}, cpus), Quantum: quantum}, api.OK
			}
			if e != should || !equal(got, want) {
				t.Errorf("New(%d, %d) = %v, %d; want %v, %d", cpus, quantum, got, e, want, should)
			}
		}
	}
	for _, n := range strange {
		for _, pair := range [][2]int{{n, 2}, {2, n}, {n, n}} {
			if got, e := sched.New(pair[0], pair[1]); e != api.ErrArg || !equal(got, api.Sched{}) {
				t.Errorf("New(%d, %d) = %v, %d; want ErrArg", pair[0], pair[1], got, e)
			}
		}
	}
}

func TestP5_1Check(t *testing.T) {
	for _, s := range few() {
		if e := sched.Check(s); e != api.OK {
			t.Fatalf("Check(%v) = %d", s, e)
		}
	}
	source := random()
	for range 2000 {
		if s := randomState(source); sched.Check(s) != api.OK {
			t.Fatalf("Check(%v) = %d", s, sched.Check(s))
		}
	}
}

// TestP5_1CheckChanged checks states of which one or two fields are others: most of them are not valid.
func TestP5_1CheckChanged(t *testing.T) {
	source, wrong, right := random(), 0, 0
	for range 60000 {
		s := randomState(source)
		for range 1 + source.Intn(2) {
			disturb(source, &s)
		}
		should := api.ErrSched
		if valid(s) {
			should = api.OK
			right++
		} else {
			wrong++
		}
		if e := sched.Check(s); e != should {
			t.Fatalf("Check(%+v) = %d; want %d", s, e, should)
		}
	}
	enough(t, "states that are not valid", wrong, 20000)
	enough(t, "states that are valid", right, 2000)
}

// TestP5_1CheckLimits checks the greatest and least numbers of a valid state, and those beside them.
func TestP5_1CheckLimits(t *testing.T) {
	full := api.Sched{Quantum: 20, Cpus: []api.CpuQ{{Run: 0, Left: 20}, {Run: -1}, {Run: 15}, {Run: -1}}}
	for thr := range 16 {
		full.Threads = append(full.Threads, api.Slot{Pri: thr % 8, Cpu: thr % 4, State: blocked})
	}
	full.Threads[0].State = running
	full.Threads[15] = api.Slot{Pri: 7, Cpu: 2, State: running}
	steps := []struct {
		what   string
		e      api.Errno
		change func(s *api.Sched)
	}{
		{"nothing", api.OK, func(s *api.Sched) {}},
		{"17 threads", api.ErrSched, func(s *api.Sched) { s.Threads = append(s.Threads, api.Slot{State: dead}) }},
		{"5 processors", api.ErrSched, func(s *api.Sched) { s.Cpus = append(s.Cpus, api.CpuQ{Run: -1}) }},
		{"no processors", api.ErrSched, func(s *api.Sched) { *s = api.Sched{Quantum: 1} }},
		{"a Quantum of 21", api.ErrSched, func(s *api.Sched) { s.Quantum = 21 }},
		{"a Quantum of 0", api.ErrSched, func(s *api.Sched) { s.Quantum, s.Cpus[0].Left = 0, 0 }},
		{"a Left of 21", api.ErrSched, func(s *api.Sched) { s.Cpus[0].Left = 21 }},
		{"a Left of 0", api.OK, func(s *api.Sched) { s.Cpus[0].Left = 0 }},
		{"a Left below 0", api.ErrSched, func(s *api.Sched) { s.Cpus[0].Left = -1 }},
		{"a Left without Run", api.ErrSched, func(s *api.Sched) { s.Cpus[1].Left = 1 }},
		{"a Left below 0 without Run", api.ErrSched, func(s *api.Sched) { s.Cpus[1].Left = -1 }},
		{"a Run of 16", api.ErrSched, func(s *api.Sched) { s.Cpus[1].Run = 16 }},
		{"a Run of -2", api.ErrSched, func(s *api.Sched) { s.Cpus[1].Run = -2 }},
		{"a Run twice", api.ErrSched, func(s *api.Sched) { s.Cpus[1].Run = 0 }},
		{"a Run that is blocked", api.ErrSched, func(s *api.Sched) { s.Cpus[1].Run = 1 }},
		{"a Run of another processor", api.ErrSched, func(s *api.Sched) { s.Cpus[0].Run, s.Cpus[2].Run = 15, 0 }},
		{"no Run", api.ErrSched, func(s *api.Sched) { s.Cpus[2].Run = -1 }},
		{"a Pri of 8", api.ErrSched, func(s *api.Sched) { s.Threads[3].Pri = 8 }},
		{"a Pri of -1", api.ErrSched, func(s *api.Sched) { s.Threads[3].Pri = -1 }},
		{"a Cpu of 4", api.ErrSched, func(s *api.Sched) { s.Threads[3].Cpu = 4 }},
		{"a Cpu of -1", api.ErrSched, func(s *api.Sched) { s.Threads[3].Cpu = -1 }},
		{"a State of 0", api.ErrSched, func(s *api.Sched) { s.Threads[3].State = 0 }},
		{"a State of 5", api.ErrSched, func(s *api.Sched) { s.Threads[3].State = 5 }},
		{"a ready thread", api.OK, func(s *api.Sched) { s.Threads[3].State, s.Cpus[3].Ready = ready, []int{3} }},
		{"a ready thread twice", api.ErrSched, func(s *api.Sched) { s.Threads[3].State, s.Cpus[3].Ready = ready, []int{3, 3} }},
		{"a ready thread elsewhere too", api.ErrSched, func(s *api.Sched) {
			s.Threads[3].State, s.Cpus[3].Ready, s.Cpus[1].Ready = ready, []int{3}, []int{3}
		}},
		{"a ready thread nowhere", api.ErrSched, func(s *api.Sched) { s.Threads[3].State = ready }},
		{"a ready thread elsewhere alone", api.ErrSched, func(s *api.Sched) { s.Threads[3].State, s.Cpus[1].Ready = ready, []int{3} }},
		{"a blocked thread in Ready", api.ErrSched, func(s *api.Sched) { s.Cpus[3].Ready = []int{3} }},
		{"a running thread in Ready", api.ErrSched, func(s *api.Sched) { s.Cpus[0].Ready = []int{0} }},
		{"no thread in Ready", api.ErrSched, func(s *api.Sched) { s.Cpus[3].Ready = []int{16} }},
		{"-1 in Ready", api.ErrSched, func(s *api.Sched) { s.Cpus[3].Ready = []int{-1} }},
		{"Ready by increasing Pri", api.ErrSched, func(s *api.Sched) {
			s.Threads[3].State, s.Threads[7].State, s.Cpus[3].Ready = ready, ready, []int{3, 7}
		}},
		{"Ready by decreasing Pri", api.OK, func(s *api.Sched) {
			s.Threads[3].State, s.Threads[7].State, s.Cpus[3].Ready = ready, ready, []int{7, 3}
		}},
		{"Ready with one Pri", api.OK, func(s *api.Sched) {
			s.Threads[3].State, s.Threads[11].State, s.Cpus[3].Ready = ready, ready, []int{11, 3}
		}},
		{"the other one of two ready threads twice", api.ErrSched, func(s *api.Sched) {
			s.Threads[3].State, s.Threads[11].State, s.Cpus[3].Ready = ready, ready, []int{3, 3}
		}},
		{"a long Ready", api.ErrSched, func(s *api.Sched) { s.Cpus[3].Ready = make([]int, 100000) }},
	}
	for _, step := range steps {
		s := copied(full)
		step.change(&s)
		if e := sched.Check(s); e != step.e || valid(s) != (step.e == api.OK) {
			t.Errorf("Check with %s = %d; want %d", step.what, e, step.e)
		}
	}
}

// TestP5_1Examples checks the chapter's examples in their order.
func TestP5_1Examples(t *testing.T) {
	s, _ := sched.New(1, 2)
	for thr, pri := range []int{3, 3, 5} {
		o := do(s, call{name: "Add", pri: pri})
		if o.n != thr || o.e != api.OK {
			t.Fatalf("Add of thread %d = %d, %d", thr, o.n, o.e)
		}
		s = o.s
	}
	const no, yes = 0, 1
	steps := []struct {
		name     string
		thr, pri int
		result   int
		behind   string
	}{
		{"Due", 0, 0, yes, "-1 0 [2 0 1]"},
		{"Switch", 0, 0, 2, "2 2 [0 1]"},
		{"Tick", 0, 0, no, "2 1 [0 1]"},
		{"Tick", 0, 0, no, "2 0 [0 1]"},
		{"Switch", 0, 0, 2, "2 2 [0 1]"},
		{"Block", 2, 0, 0, "-1 0 [0 1]"},
		{"Switch", 0, 0, 0, "0 2 [1]"},
		{"Tick", 0, 0, no, "0 1 [1]"},
		{"Tick", 0, 0, yes, "0 0 [1]"},
		{"Switch", 0, 0, 1, "1 2 [0]"},
		{"Tick", 0, 0, no, "1 1 [0]"},
		{"Wake", 2, 0, yes, "1 1 [2 0]"},
		{"Switch", 0, 0, 2, "2 2 [1 0]"},
		{"End", 2, 0, 0, "-1 0 [1 0]"},
		{"Switch", 0, 0, 1, "1 2 [0]"},
		{"SetPri", 1, 1, 0, "1 2 [0]"},
		{"Switch", 0, 0, 0, "0 2 [1]"},
		{"Yield", 0, 0, 0, "0 0 [1]"},
		{"Switch", 0, 0, 0, "0 2 [1]"},
	}
	for i, step := range steps {
		o := do(s, call{name: step.name, thr: step.thr, pri: step.pri})
		if step.name != "Due" {
			s = o.s
		}
		if o.yes {
			o.n = yes
		}
		if o.e != api.OK || o.n != step.result || text(s.Cpus[0]) != step.behind {
			t.Fatalf("step %d, %s: %d, %d, %q; want %d, %q", i, step.name, o.e, o.n, text(s.Cpus[0]), step.result, step.behind)
		}
	}
}

// TestP5_1Numbers checks that the number of a thread that has ended is not used again, and that such threads count.
func TestP5_1Numbers(t *testing.T) {
	s, _ := sched.New(2, 1)
	for thr := range 16 {
		o := do(s, call{name: "Add", pri: 7, cpu: 1})
		if o.n != thr || o.e != api.OK {
			t.Fatalf("Add of thread %d = %d, %d", thr, o.n, o.e)
		}
		s = must(t, o.s, call{name: "End", thr: thr})
	}
	if o := do(s, call{name: "Add", pri: 7, cpu: 1}); !same(o, outcome{e: api.ErrLong}) {
		t.Errorf("Add of thread 16 = %+v; want ErrLong", o)
	}
}

// TestP5_1Preempted checks the two places to which a thread goes that a thread with a greater priority replaces.
func TestP5_1Preempted(t *testing.T) {
	for left, behind := range []string{"0 3 [2 1]", "0 3 [1 2]", "0 3 [1 2]", "0 3 [1 2]"} {
		s := api.Sched{Quantum: 3, Cpus: []api.CpuQ{{Run: 1, Left: left, Ready: []int{0, 2}}}, Threads: []api.Slot{{Pri: 5, State: ready}, {Pri: 4, State: running}, {Pri: 4, State: ready}}}
		if o := do(s, call{name: "Switch"}); o.n != 0 || o.e != api.OK || text(o.s.Cpus[0]) != behind {
			t.Errorf("Switch with Left %d: %q; want %q", left, text(o.s.Cpus[0]), behind)
		}
	}
}

// TestP5_1Fullest checks from which processor a thread is taken.
func TestP5_1Fullest(t *testing.T) {
	for _, c := range []struct {
		what        string
		first, last int
		runs        bool
		taken       int
	}{
		{"one ready thread", 1, 0, false, -1},
		{"two ready threads", 2, 0, false, 1},
		{"one that runs and one that is ready", 1, 0, true, 1},
		{"one that runs", 0, 0, true, -1},
		{"as many on two processors", 2, 3, true, 1},
		{"more on the last one", 2, 3, false, 3},
	} {
		s := api.Sched{Quantum: 1, Cpus: []api.CpuQ{{Run: -1}, {Run: -1}, {Run: -1}, {Run: -1}}, Threads: []api.Slot{{Cpu: 1, State: blocked}}}
		if c.runs {
			s.Threads[0].State, s.Cpus[1].Run = running, 0
		}
		for thr := 1; thr <= c.first+c.last; thr++ {
			cpu := 1
			if thr > c.first {
				cpu = 3
			}
			s.Threads = append(s.Threads, api.Slot{Cpu: cpu, State: ready})
			s.Cpus[cpu].Ready = append(s.Cpus[cpu].Ready, thr)
		}
		o := do(s, call{name: "Steal", cpu: 2})
		if o.n != c.taken || !same(o, want(s, call{name: "Steal", cpu: 2})) {
			t.Errorf("Steal with %s: %+v; want %d", c.what, o, c.taken)
		}
	}
}

func TestP5_1Same(t *testing.T) {
	source, samples := random(), []api.Sched{{}, {Cpus: []api.CpuQ{}, Threads: []api.Slot{}}, {Quantum: 1}, {Cpus: []api.CpuQ{{}}}, {Cpus: []api.CpuQ{{Ready: []int{}}}}, {Threads: []api.Slot{{}}}}
	for range 300 {
		s := randomState(source)
		if !sched.Same(s, copied(s)) {
			t.Fatalf("Same of %v and its copy is false", s)
		}
		samples = append(samples, s)
		disturb(source, &s)
		samples = append(samples, s)
	}
	for _, a := range samples {
		for _, b := range samples {
			if got := sched.Same(a, b); got != equal(a, b) {
				t.Fatalf("Same(%v, %v) = %t", a, b, got)
			}
		}
	}
}

// TestP5_1SameFields checks that each field counts, those of states that are not valid too.
func TestP5_1SameFields(t *testing.T) {
	base := api.Sched{Quantum: 99, Cpus: []api.CpuQ{{Run: 7, Left: -1, Ready: []int{5, 6}}, {}}, Threads: []api.Slot{{Pri: 9, Cpu: 8, State: 7}, {}}}
	changes := []func(s *api.Sched){
		func(s *api.Sched) { s.Quantum++ },
		func(s *api.Sched) { s.Cpus[0].Run++ },
		func(s *api.Sched) { s.Cpus[0].Left++ },
		func(s *api.Sched) { s.Cpus[0].Ready[1]++ },
		func(s *api.Sched) { s.Cpus[0].Ready = s.Cpus[0].Ready[:1] },
		func(s *api.Sched) { s.Cpus[1].Ready = []int{0} },
		func(s *api.Sched) { s.Cpus = s.Cpus[:1] },
		func(s *api.Sched) { s.Cpus = append(s.Cpus, api.CpuQ{}) },
		func(s *api.Sched) { s.Threads[0].Pri++ },
		func(s *api.Sched) { s.Threads[0].Cpu++ },
		func(s *api.Sched) { s.Threads[1].State++ },
		func(s *api.Sched) { s.Threads = s.Threads[:1] },
		func(s *api.Sched) { s.Threads = nil },
	}
	if !sched.Same(base, copied(base)) {
		t.Error("Same of equal states is false")
	}
	for i, change := range changes {
		s := copied(base)
		change(&s)
		if sched.Same(base, s) || sched.Same(s, base) {
			t.Errorf("change %d is not seen", i)
		}
	}
}
