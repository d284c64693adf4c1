package sched_test

import (
	"math/rand"
	"slices"
	"testing"

	"tapline/api"
	"tapline/sched"
)

// P5.1 and P1 for arguments that are not valid: the error named first, and zero values beside it.

// disturb changes one field of a state, mostly to a value that it cannot have.
func disturb(source *rand.Rand, s *api.Sched) {
	value := source.Intn(20) - 2
	if source.Intn(6) == 0 {
		value = strange[source.Intn(len(strange))]
	}
	q := &s.Cpus[source.Intn(len(s.Cpus))]
	switch source.Intn(11) {
	case 0:
		s.Quantum = value
	case 1:
		q.Run = value
	case 2:
		q.Left = value
	case 3:
		q.Ready = slices.Insert(q.Ready, source.Intn(len(q.Ready)+1), value)
	case 4:
		s.Cpus = append(s.Cpus, api.CpuQ{Run: -source.Intn(2), Left: source.Intn(4) / 3})
	case 5:
		s.Cpus = s.Cpus[:len(s.Cpus)-1]
		if len(s.Cpus) == 0 {
			s.Cpus = append(s.Cpus, api.CpuQ{})
		}
	case 6:
		s.Threads = append(s.Threads, api.Slot{Pri: source.Intn(8), State: 1 + source.Intn(4)})
	case 7:
		disturbQueue(source, q.Ready)
	default:
		disturbThread(source, s.Threads, value)
	}
}

// disturbQueue exchanges two threads of a queue, or replaces one.
func disturbQueue(source *rand.Rand, queue []int) {
	if len(queue) == 0 {
		return
	}
	i, j := source.Intn(len(queue)), source.Intn(len(queue))
	if source.Intn(2) == 0 {
		queue[i] = queue[j]
	} else {
		queue[i], queue[j] = queue[j], queue[i]
	}
}

func disturbThread(source *rand.Rand, threads []api.Slot, value int) {
	if len(threads) == 0 {
		return
	}
	thread := &threads[source.Intn(len(threads))]
	switch source.Intn(3) {
	case 0:
		thread.Pri = value
	case 1:
		thread.Cpu = value
	default:
		thread.State = value
	}
}

// invalidStates returns states that are not valid.
func invalidStates() []api.Sched {
	source := random()
	list := []api.Sched{
		{}, {Quantum: 2}, {Quantum: 2, Cpus: []api.CpuQ{{}}}, {Cpus: []api.CpuQ{{Run: -1}}},
		{Quantum: 2, Cpus: slices.Repeat([]api.CpuQ{{Run: -1}}, 5)},
		{Quantum: 2, Cpus: []api.CpuQ{{Run: -1}}, Threads: slices.Repeat([]api.Slot{{State: dead}}, 17)},
		{Quantum: 2, Cpus: slices.Repeat([]api.CpuQ{{Run: -1}}, 100000), Threads: slices.Repeat([]api.Slot{{State: dead}}, 100000)},
	}
	for len(list) < 600 {
		s := randomState(source)
		disturb(source, &s)
		if !valid(s) {
			list = append(list, s)
		}
	}
	return list
}

// TestP5_1InvalidState checks that a state that is not valid is told before anything else that is wrong.
func TestP5_1InvalidState(t *testing.T) {
	for _, s := range invalidStates() {
		if len(s.Cpus) > 10 {
			s.Cpus = s.Cpus[:10]
		}
		few := s
		few.Threads = s.Threads[:min(len(s.Threads), 3)]
		for _, c := range calls(few, -1, 2, 8) {
			should := outcome{e: api.ErrSched}
			if c.name == "Due" {
				should = outcome{}
			}
			if got := do(s, c); !same(got, should) {
				t.Fatalf("%+v of %+v = %+v; want ErrSched", c, s, got)
			}
		}
	}
}

// TestP5_1InvalidNumbers checks numbers that are far from those of threads, processors and priorities.
func TestP5_1InvalidNumbers(t *testing.T) {
	source := random()
	for range 100 {
		s := randomState(source)
		for _, n := range strange {
			for _, name := range []string{"End", "Block", "Wake", "SetPri"} {
				for _, pri := range []int{3, -1} {
					if got := do(s, call{name: name, thr: n, pri: pri}); !same(got, outcome{e: api.ErrThread}) {
						t.Errorf("%s of thread %d = %+v; want ErrThread", name, n, got)
					}
				}
			}
			for _, name := range []string{"Add", "Switch", "Tick", "Yield", "Steal"} {
				for _, pri := range []int{3, -1} {
					if got := do(s, call{name: name, cpu: n, pri: pri}); !same(got, outcome{e: api.ErrCpu}) {
						t.Errorf("%s of processor %d = %+v; want ErrCpu", name, n, got)
					}
				}
			}
			if sched.Due(s, n) {
				t.Errorf("Due of processor %d is true", n)
			}
			for thr := range s.Threads {
				c := call{name: "SetPri", thr: thr, pri: n}
				if got := do(s, c); !same(got, want(s, c)) || got.e == api.OK {
					t.Errorf("%+v = %+v; want %+v", c, got, want(s, c))
				}
			}
			if got := do(s, call{name: "Add", pri: n}); !same(got, outcome{e: api.ErrArg}) {
				t.Errorf("Add with the priority %d = %+v; want ErrArg", n, got)
			}
		}
	}
}

// TestP5_1ErrorOrder checks calls in which several things are wrong.
func TestP5_1ErrorOrder(t *testing.T) {
	full := api.Sched{Quantum: 1, Cpus: []api.CpuQ{{Run: -1}}, Threads: slices.Repeat([]api.Slot{{State: dead}}, 16)}
	for _, c := range []struct {
		call call
		e    api.Errno
	}{
		{call{name: "Add", cpu: 1, pri: 8}, api.ErrCpu},
		{call{name: "Add", cpu: -1, pri: 0}, api.ErrCpu},
		{call{name: "Add", cpu: 0, pri: 8}, api.ErrArg},
		{call{name: "Add", cpu: 0, pri: 7}, api.ErrLong},
		{call{name: "SetPri", thr: 16, pri: 8}, api.ErrThread},
		{call{name: "SetPri", thr: 15, pri: 8}, api.ErrThread},
		{call{name: "SetPri", thr: 15, pri: 0}, api.ErrThread},
		{call{name: "End", thr: 15}, api.ErrThread},
		{call{name: "Block", thr: 15}, api.ErrThread},
		{call{name: "Wake", thr: 15}, api.ErrThread},
		{call{name: "Yield", cpu: 0}, api.ErrCpu},
		{call{name: "Yield", cpu: 1}, api.ErrCpu},
	} {
		if got := do(full, c.call); !same(got, outcome{e: c.e}) {
			t.Errorf("%+v = %+v; want the error %d", c.call, got, c.e)
		}
	}
}

// overwrite writes a number into each place of the lists of a state, those behind the ends of the lists too.
func overwrite(s api.Sched, n int) {
	for i := range s.Cpus {
		queue := s.Cpus[i].Ready
		for j := range queue[:cap(queue)] {
			queue[:cap(queue)][j] = 10*n + i
		}
	}
	for i := range s.Cpus[:cap(s.Cpus)] {
		s.Cpus[:cap(s.Cpus)][i].Left = n
	}
	for i := range s.Threads[:cap(s.Threads)] {
		s.Threads[:cap(s.Threads)][i].Pri = n
	}
}

// TestP1Arguments checks that no function changes a state, or returns its memory, or the same memory twice.
func TestP1Arguments(t *testing.T) {
	source, n := random(), 0
	for range 300 {
		s := randomState(source)
		before := copied(s)
		for _, c := range calls(s, 2) {
			o := do(s, c)
			if o.e != api.OK || c.name == "Due" {
				continue
			}
			n++
			overwrite(o.s, n)
			for i, q := range o.s.Cpus {
				if q.Left != n || slices.ContainsFunc(q.Ready, func(x int) bool { return x != 10*n+i }) {
					t.Fatalf("%+v: lists of the result share memory", c)
				}
			}
			if !equal(s, before) {
				t.Fatalf("%+v changes its argument %v to %v", c, before, s)
			}
		}
		sched.Check(s)
		sched.Same(s, s)
		if !equal(s, before) {
			t.Fatalf("Check or Same changes its argument %v to %v", before, s)
		}
	}
	enough(t, "results", n, 3000)
}

// TestP1ArgumentsWithRoom checks that nothing is written behind the ends of an argument's lists.
func TestP1ArgumentsWithRoom(t *testing.T) {
	roomy := func(list ...int) []int { return append(list, 77, 77, 77)[:len(list)] }
	threads := append([]api.Slot{{Pri: 4, State: ready}, {Pri: 4, State: running}, {Pri: 3, State: blocked}, {Pri: 2, State: ready}}, api.Slot{Pri: 77}, api.Slot{Pri: 77})[:4]
	s := api.Sched{Quantum: 2, Cpus: []api.CpuQ{{Run: 1, Ready: roomy(0, 3)}, {Run: -1, Ready: roomy()}}, Threads: threads}
	for _, c := range calls(s, 1, 3, 5) {
		do(s, c)
		for _, q := range s.Cpus {
			for _, x := range q.Ready[len(q.Ready):cap(q.Ready)] {
				if x != 77 && x != 0 {
					t.Fatalf("%+v writes %d behind the end of a queue", c, x)
				}
			}
		}
		if threads[:6][4].Pri != 77 || threads[:6][5].Pri != 77 || s.Cpus[0].Ready[:5][2] != 77 || s.Cpus[1].Ready[:3][0] != 77 {
			t.Fatalf("%+v writes behind the end of a list", c)
		}
	}
}

// TestP1NoState checks that a call does not depend on those before it.
func TestP1NoState(t *testing.T) {
	source := random()
	for range 50 {
		s := randomState(source)
		list := calls(s, 2, 5)
		var first []outcome
		for _, c := range list {
			first = append(first, do(s, c))
		}
		for i := len(list) - 1; i >= 0; i-- {
			if again := do(s, list[i]); !same(first[i], again) {
				t.Fatalf("%+v returns %+v, later %+v", list[i], first[i], again)
			}
		}
	}
}
