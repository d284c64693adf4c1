package kernel_test

import (
	"bytes"
	"slices"
	"testing"

	"tapline/api"
	"tapline/cpu"
	"tapline/kernel"
	"tapline/mem"
)

// P6.2 to P6.12, by the texts of the theorems.

// standings returns in how many of the places of P6.2 a thread is.
func standings(k api.Kern, tid int) int {
	n := 0
	for _, q := range k.Sched.Cpus {
		if q.Run == tid {
			n++
		}
		for _, x := range q.Ready {
			if x == tid {
				n++
			}
		}
	}
	for _, r := range k.Disk.Queue {
		if r.Tid == tid {
			n++
		}
	}
	if w := k.Threads[tid].Wait; w == api.WtSleep || w == api.WtStop {
		n++
	}
	if k.Sched.Threads[tid].State == api.StDead {
		n++
	}
	return n
}

func mustBeValid(t *testing.T, what string, k api.Kern) {
	t.Helper()
	if !valid(k) || kernel.Check(k) != api.OK {
		t.Fatalf("%s returns %+v, which is not valid", what, k)
	}
	for tid := range k.Threads {
		if n := standings(k, tid); n != 1 {
			t.Fatalf("%s returns %+v: thread %d is in %d places", what, k, tid, n)
		}
	}
}

func TestP6_2Invariant(t *testing.T) {
	t.Parallel()
	source, steps, effects := random(), 0, 0
	for range 1500 {
		k := randomKern(source)
		mustBeValid(t, "the generator", k)
		for _, p := range picks(k) {
			if o := step(k, p); o.e == api.OK {
				mustBeValid(t, "Step", o.k)
				steps++
			}
			s := k.Procs[0].Space
			if tid := wantExecutes(k, p); tid >= 0 {
				s = k.Procs[k.Threads[tid].Pid].Space
			}
			if o := apply(k, p, randomEffect(source, s)); o.e == api.OK {
				mustBeValid(t, "Apply", o.k)
				effects++
			}
		}
		for tid := range k.Threads {
			mustBeValid(t, "Stop", stop(k, tid).k)
		}
		for pid := range k.Procs {
			mustBeValid(t, "Kill", kill(k, pid, randomNumber(source)).k)
			mustBeValid(t, "Poke", poke(k, pid, int64(source.Intn(300)), make([]byte, source.Intn(20))).k)
		}
	}
	enough(t, "steps", steps, 5000)
	enough(t, "effects", effects, 2000)
	for range 60 {
		k := started(t, randomBoot(t, source))
		mustBeValid(t, "New", k)
		if o := run(k, randomPicks(source, len(k.Clocks), 300)); o.e == api.OK {
			mustBeValid(t, "Run", o.k)
		} else {
			t.Fatalf("Run has the error %d", o.e)
		}
	}
}

// TestP6_2Controlled checks runs between which a tracer stops threads, kills processes and writes into their memory.
func TestP6_2Controlled(t *testing.T) {
	source := random()
	for range 60 {
		k := started(t, randomBoot(t, source))
		for range 60 {
			o := run(k, randomPicks(source, len(k.Clocks), source.Intn(15)))
			if o.e != api.OK {
				t.Fatalf("Run has the error %d", o.e)
			}
			k = o.k
			switch source.Intn(8) {
			case 0:
				k = stop(k, source.Intn(len(k.Threads))).k
			case 1:
				k = kill(k, source.Intn(len(k.Procs)), 3).k
			default:
				k = poke(k, source.Intn(len(k.Procs)), 64+int64(source.Intn(60)), []byte{byte(source.Intn(256))}).k
			}
			mustBeValid(t, "a controlled run", k)
		}
	}
}

func TestP6_3Schedule(t *testing.T) {
	switches := 0
	source := random()
	for _, r := range trails(t, 90, 500) {
		// A run may begin anywhere.
		first := source.Intn(100)
		runs := map[int]int{}
		for c := range r.states[first].Clocks {
			if tid := r.states[first].Sched.Cpus[c].Run; tid >= 0 {
				runs[tid] = c
			}
		}
		for i := first; i < len(r.picks); i++ {
			for _, e := range r.events[i] {
				switch e.Kind {
				case api.EvOn:
					if c, is := runs[e.Tid]; is {
						t.Fatalf("thread %d, which runs on %d, begins to run on %d", e.Tid, c, e.Cpu)
					}
					runs[e.Tid] = e.Cpu
					switches++
				case api.EvOff:
					if _, is := runs[e.Tid]; !is {
						t.Fatalf("thread %d, which does not run, ceases to run", e.Tid)
					}
					delete(runs, e.Tid)
				}
			}
			count := 0
			for c := range r.states[i+1].Clocks {
				tid, e := kernel.Current(r.states[i+1], c)
				if e != api.OK {
					t.Fatalf("Current has the error %d", e)
				}
				if tid == -1 {
					continue
				}
				count++
				if by, is := runs[tid]; !is || by != c {
					t.Fatalf("thread %d runs on %d; by the log: %v", tid, c, runs)
				}
			}
			if count != len(runs) {
				t.Fatalf("%d threads run; by the log: %v", count, runs)
			}
		}
	}
	enough(t, "switches", switches, 1000)
}

func TestP6_4Calls(t *testing.T) {
	waiting, ended := 0, 0
	for _, r := range trails(t, 80, 400) {
		inside := map[int]int64{}
		for i := range r.picks {
			for _, e := range r.events[i] {
				n, is := inside[e.Tid]
				switch e.Kind {
				case api.EvEntry:
					if is {
						t.Fatalf("thread %d enters %d within %d", e.Tid, e.Args[0], n)
					}
					inside[e.Tid] = e.Args[0]
				case api.EvReturn:
					if !is || n != e.Args[0] {
						t.Fatalf("thread %d returns from %d; by the log: %d, %t", e.Tid, e.Args[0], n, is)
					}
					delete(inside, e.Tid)
				}
			}
			k := r.states[i+1]
			for tid, thread := range k.Threads {
				n, is := inside[tid]
				switch dead := k.Sched.Threads[tid].State == api.StDead; {
				case is && dead:
					ended++
				case is && int64(thread.Sys) == n && thread.Wait != api.WtNone:
					waiting++
				case is || thread.Sys != -1 && !dead:
					t.Fatalf("thread %d is %+v; by the log in %d, %t", tid, thread, n, is)
				}
			}
		}
	}
	enough(t, "threads that wait in a call", waiting, 1000)
	enough(t, "threads that ended in a call", ended, 1000)
}

func TestP6_5Runs(t *testing.T) {
	source := random()
	for range 60 {
		k := started(t, randomBoot(t, source))
		l := randomPicks(source, len(k.Clocks), 300)
		cut := source.Intn(len(l) + 1)
		whole, first := run(k, l), run(k, l[:cut])
		second := run(first.k, l[cut:])
		both := outcome{second.k, append(first.events, second.events...), second.e}
		if !same(whole, both) || whole.e != api.OK {
			t.Fatalf("Run of %v = %+v; cut at %d: %+v", l, whole, cut, both)
		}
	}
	// With errors: the first one, of either part.
	errors := 0
	for range 600 {
		k := randomKern(source)
		l := append(randomPicks(source, len(k.Clocks), 12), api.Pick{Kind: among(source, 0, 0, 3)})
		cut := source.Intn(len(l) + 1)
		both := run(k, l[:cut])
		if both.e == api.OK {
			second := run(both.k, l[cut:])
			both = outcome{second.k, append(both.events, second.events...), second.e}
		}
		if both.e != api.OK {
			both.events = nil
			errors++
		}
		if whole := run(k, l); !same(whole, both) {
			t.Fatalf("Run of %v = %+v; cut at %d: %+v", l, whole, cut, both)
		}
	}
	enough(t, "runs with an error", errors, 100)
}

// plain returns the thread that executes an instruction without a trap in a step, and its effect; -1 if there is none.
func plain(t *testing.T, k api.Kern, c int) (int, api.Effect) {
	t.Helper()
	tid, e := kernel.Executes(k, api.Pick{Cpu: c})
	if e != api.OK || tid == -1 || k.Clocks[c].Now+k.Clocks[c].Rate > api.MaxTime {
		return -1, api.Effect{}
	}
	effect, e := cpu.Step(k.Procs[k.Threads[tid].Pid].Space, k.Threads[tid].Regs)
	if e != api.OK {
		t.Fatalf("cpu.Step has the error %d", e)
	}
	if effect.Trap.Kind != api.TrNone {
		return -1, api.Effect{}
	}
	return tid, effect
}

func TestP6_6Locality(t *testing.T) {
	t.Parallel()
	source, steps, stores, anew := random(), 0, 0, 0
	for range 6000 {
		k := randomKern(source)
		for c := range k.Clocks {
			tid, effect := plain(t, k, c)
			if tid == -1 {
				continue
			}
			steps++
			o := step(k, api.Pick{Cpu: c})
			pid := k.Threads[tid].Pid
			changes, e := mem.Diff(k.Procs[pid].Space, o.k.Procs[pid].Space)
			if e != api.OK {
				t.Fatalf("Diff has the error %d", e)
			}
			for _, x := range changes {
				if i := x.At - effect.At; i < 0 || i >= int64(len(effect.Data)) || effect.Data[i] != x.New {
					t.Fatalf("Step changes the byte at %d, where %v is stored at %d", x.At, effect.Data, effect.At)
				}
				stores++
			}
			if k.Sched.Cpus[c].Left == 0 {
				anew++
				if o.k.Sched.Cpus[c].Left != k.Sched.Quantum {
					t.Fatalf("a time slice begins anew with %d", o.k.Sched.Cpus[c].Left)
				}
				o.k.Sched.Cpus[c].Left = 0
			}
			if o.k.Threads[tid].Regs != effect.Regs || o.k.Clocks[c].Now != k.Clocks[c].Now+k.Clocks[c].Rate {
				t.Fatalf("Step leads to %+v and %+v", o.k.Threads[tid], o.k.Clocks)
			}
			o.k.Threads[tid].Regs, o.k.Clocks[c].Now = k.Threads[tid].Regs, k.Clocks[c].Now
			o.k.Procs[pid].Space = k.Procs[pid].Space
			if !equal(o.k, k) {
				t.Fatalf("Step changes more of %+v: %+v", k, o.k)
			}
		}
	}
	enough(t, "instructions", steps, 800)
	enough(t, "bytes that are stored", stores, 200)
	enough(t, "time slices that begin anew", anew, 30)
}

func TestP6_7Commutation(t *testing.T) {
	t.Parallel()
	source, pairs := random(), 0
	for range 12000 {
		k := randomKern(source)
		for a := range k.Clocks {
			for b := range a {
				x, _ := plain(t, k, a)
				y, _ := plain(t, k, b)
				if x == -1 || y == -1 || k.Threads[x].Pid == k.Threads[y].Pid {
					continue
				}
				pairs++
				ab, ba := run(k, []api.Pick{{Cpu: a}, {Cpu: b}}), run(k, []api.Pick{{Cpu: b}, {Cpu: a}})
				if ab.e != api.OK || ba.e != api.OK || !equal(ab.k, ba.k) {
					t.Fatalf("instructions of %d and %d on %+v lead to %+v, and to %+v", a, b, k, ab, ba)
				}
			}
		}
	}
	enough(t, "pairs of instructions", pairs, 200)
}

// device is what the log says of the device: the blocks, and the requests that are not served.
type device struct {
	blocks [][]byte
	queue  []api.Event
}

// hear follows a transition from a state.
func (d *device) hear(t *testing.T, ahead api.Kern, events []api.Event) (served, killed int) {
	t.Helper()
	for i, e := range events {
		switch e.Kind {
		case api.EvStart:
			d.queue = append(d.queue, e)
		case api.EvExit:
			n := len(d.queue)
			d.queue = slices.DeleteFunc(d.queue, func(x api.Event) bool { return x.Tid == e.Tid })
			killed += n - len(d.queue)
		case api.EvDone:
			if len(d.queue) == 0 || d.queue[0].Tid != e.Tid || d.queue[0].Args != e.Args {
				t.Fatalf("%+v is served; by the log: %+v", e, d.queue)
			}
			d.queue = d.queue[1:]
			served++
			if back := events[i+2]; e.Args[1] == 1 && back.Kind == api.EvReturn && back.Args[1] == 0 {
				s, at := ahead.Procs[e.Pid].Space, ahead.Disk.Queue[0].At
				d.blocks[e.Args[0]] = list(s.Bytes[at : at+16])
			}
		}
	}
	return served, killed
}

func TestP6_8Device(t *testing.T) {
	t.Parallel()
	source, served, killed, changed := random(), 0, 0, 0
	for range 500 {
		k := started(t, randomBoot(t, source))
		for i := range k.Disk.Blocks {
			source.Read(k.Disk.Blocks[i])
		}
		r := follow(t, k, randomPicks(source, len(k.Clocks), 400))
		d := device{blocks: copied(k).Disk.Blocks}
		for i := range r.picks {
			s, n := d.hear(t, r.states[i], r.events[i])
			served, killed = served+s, killed+n
			behind := r.states[i+1].Disk
			for b := range d.blocks {
				if !bytes.Equal(behind.Blocks[b], d.blocks[b]) {
					t.Fatalf("block %d is %v; by the log: %v", b, behind.Blocks[b], d.blocks[b])
				}
			}
			if len(behind.Queue) != len(d.queue) {
				t.Fatalf("the queue is %v; by the log: %v", behind.Queue, d.queue)
			}
		}
		if !bytes.Equal(d.blocks[0], k.Disk.Blocks[0]) {
			changed++
		}
	}
	enough(t, "requests that are served", served, 500)
	enough(t, "requests of threads that are killed", killed, 3)
	enough(t, "blocks that changed", changed, 20)
}

func TestP6_9Clocks(t *testing.T) {
	source := random()
	for range 60 {
		k := started(t, randomBoot(t, source))
		for c := range k.Clocks {
			k.Clocks[c].Now = source.Int63n(1000)
		}
		l := randomPicks(source, len(k.Clocks), 300)
		o := run(k, l)
		last, should := map[int]int64{}, copied(k).Clocks
		for _, e := range o.events {
			if e.Time < last[e.Cpu] || e.Time < k.Clocks[e.Cpu].Now || e.Time >= o.k.Clocks[e.Cpu].Now {
				t.Fatalf("processor %d has an event at %d behind one at %d", e.Cpu, e.Time, last[e.Cpu])
			}
			last[e.Cpu] = e.Time
		}
		for _, p := range l {
			should[p.Cpu].Now += should[p.Cpu].Rate
		}
		if !slices.Equal(o.k.Clocks, should) {
			t.Fatalf("the clocks are %v; want %v", o.k.Clocks, should)
		}
	}
}

func TestP6_10Effects(t *testing.T) {
	t.Parallel()
	source, executed, others := random(), 0, 0
	for range 4000 {
		k := randomKern(source)
		for _, p := range picks(k) {
			tid, e := kernel.Executes(k, p)
			if e != api.OK {
				t.Fatalf("Executes has the error %d", e)
			}
			effect := randomEffect(source, k.Procs[0].Space)
			if tid >= 0 {
				effect, _ = cpu.Step(k.Procs[k.Threads[tid].Pid].Space, k.Threads[tid].Regs)
				executed++
			} else {
				others++
			}
			if a, b := step(k, p), apply(k, p, effect); !same(a, b) {
				t.Fatalf("Step of %v on %+v = %+v; Apply of %+v = %+v", p, k, a, effect, b)
			}
		}
	}
	enough(t, "picks that execute an instruction", executed, 1000)
	enough(t, "picks that do not", others, 1000)
}

// farewell follows which threads have ended by the log: true for one that ran, until its EvOff.
type farewell map[int]bool

func (f farewell) hear(t *testing.T, ahead api.Kern, events []api.Event) {
	t.Helper()
	for _, e := range events {
		ran, gone := f[e.Tid]
		if gone && !(ran && e.Kind == api.EvOff) {
			t.Fatalf("%+v is about a thread that has ended", e)
		}
		if gone {
			f[e.Tid] = false
		}
		if e.Kind == api.EvExit {
			f[e.Tid] = e.Tid < len(ahead.Threads) && ahead.Sched.Threads[e.Tid].State == api.StRun
		}
	}
}

func TestP6_11TheEnd(t *testing.T) {
	dead, gone := 0, 0
	for _, r := range trails(t, 80, 500) {
		f := farewell{}
		for i := range r.picks {
			f.hear(t, r.states[i], r.events[i])
			for tid, ran := range f {
				if ran || r.states[i+1].Sched.Threads[tid].State != api.StDead {
					t.Fatalf("thread %d has ended by the log, and is %v", tid, r.states[i+1].Sched.Threads[tid])
				}
			}
			for pid, p := range r.states[i].Procs {
				if next := r.states[i+1].Procs[pid]; p.Dead {
					dead++
					if !next.Dead || next.Status != p.Status {
						t.Fatalf("process %d is dead with %d, and then %t with %d", pid, p.Status, next.Dead, next.Status)
					}
				}
			}
		}
		for _, slot := range r.last().Sched.Threads {
			if slot.State == api.StDead {
				gone++
			}
		}
		if count := len(f); count > len(r.last().Threads) {
			t.Fatalf("%d threads have ended of %d", count, len(r.last().Threads))
		}
	}
	enough(t, "states with a dead process", dead, 1000)
	enough(t, "threads that have ended", gone, 100)
}

func TestP6_12Enabled(t *testing.T) {
	t.Parallel()
	source, idle, late := random(), 0, 0
	var states []api.Kern
	for range 2500 {
		states = append(states, randomKern(source))
	}
	for _, r := range trails(t, 20, 200) {
		states = append(states, r.states...)
	}
	for _, k := range states {
		l, e := kernel.Enabled(k)
		if e != api.OK || !slices.IsSortedFunc(l, func(a, b api.Pick) int { return 3*(a.Cpu-b.Cpu) + a.Kind - b.Kind }) {
			t.Fatalf("Enabled = %v, %d", l, e)
		}
		for _, p := range picks(k) {
			o := step(k, p)
			switch {
			case o.e != api.OK:
				late++
				if slices.Contains(l, p) {
					t.Fatalf("%v has the error %d, and is enabled", p, o.e)
				}
			case slices.Contains(l, p):
				if len(o.events) == 0 && sameButClock(o.k, k, p.Cpu) {
					t.Fatalf("%v is enabled, and does nothing", p)
				}
			default:
				idle++
				if len(o.events) != 0 || !sameButClock(o.k, k, p.Cpu) {
					t.Fatalf("%v is not enabled, and leads from %+v to %+v", p, k, o)
				}
			}
		}
	}
	enough(t, "picks that do nothing", idle, 1000)
	enough(t, "picks at the end of time", late, 500)
}
