package kernel_test

import (
	"fmt"
	"slices"
	"testing"

	"tapline/api"
	"tapline/kernel"
)

// P6.1: each function as the chapter describes it, on random states.

// check fails unless a transition is what it has to be.
func check(t *testing.T, what string, k api.Kern, p api.Pick, got, should outcome) {
	t.Helper()
	if !same(got, should) {
		t.Fatalf("%s of %v on %+v:\n%+v\nwant %+v", what, p, k, got, should)
	}
}

// tally counts what the events of a transition were about: a system call by its number, 100 more if it returned -1, and 200 plus the kind of a trap.
func tally(n map[int]int, events []api.Event) {
	call := -1
	for _, e := range events {
		switch e.Kind {
		case api.EvEntry:
			call = int(e.Args[0])
			n[call]++
		case api.EvReturn:
			if int(e.Args[0]) == call && e.Args[1] == -1 {
				n[100+call]++
			}
		case api.EvFault:
			n[200+int(e.Args[0])]++
		}
	}
}

func TestP6_1Step(t *testing.T) {
	t.Parallel()
	source, calls, late := random(), map[int]int{}, 0
	kinds := map[int]int{}
	for range 16000 {
		k := randomKern(source)
		for _, p := range picks(k) {
			got := step(k, p)
			check(t, "Step", k, p, got, wantStep(k, p))
			tally(calls, got.events)
			for _, e := range got.events {
				kinds[e.Kind]++
			}
			if got.e == api.ErrLong {
				late++
			}
		}
	}
	for n := range 13 {
		enough(t, fmt.Sprint("system calls ", n), calls[n], 100)
	}
	for _, n := range []int{api.SysPri, api.SysRead, api.SysWrite, api.SysProtect, api.SysKill} {
		enough(t, fmt.Sprint("refusals of ", n), calls[100+n], 50)
		enough(t, fmt.Sprint("calls that are not refused of ", n), calls[n]-calls[100+n], 40)
	}
	enough(t, "refusals of SysSpawn", calls[100+api.SysSpawn], 10)
	for _, kind := range []int{api.TrFault, api.TrIllegal, api.TrDivide} {
		enough(t, fmt.Sprint("traps ", kind), calls[200+kind], 20)
	}
	for kind := api.EvInsn; kind <= api.EvFault; kind++ {
		enough(t, fmt.Sprint("events ", kind), kinds[kind], 50)
	}
	enough(t, "transitions at the end of time", late, 500)
}

func TestP6_1Apply(t *testing.T) {
	t.Parallel()
	source, errors := random(), map[api.Errno]int{}
	calls := map[int]int{}
	for range 2500 {
		k := randomKern(source)
		for _, p := range picks(k) {
			s := k.Procs[source.Intn(len(k.Procs))].Space
			if tid := wantExecutes(k, p); tid >= 0 {
				s = k.Procs[k.Threads[tid].Pid].Space
			}
			for range 3 {
				e := randomEffect(source, s)
				got := apply(k, p, e)
				check(t, "Apply", k, p, got, wantApply(k, p, e))
				errors[got.e]++
				tally(calls, got.events)
			}
		}
	}
	for _, e := range []api.Errno{api.OK, api.ErrArg, api.ErrLong, api.ErrEffect} {
		enough(t, fmt.Sprint("results with the error ", e), errors[e], 500)
	}
	for n := range 13 {
		enough(t, fmt.Sprint("system calls ", n), calls[n], 30)
	}
	for kind := api.TrBreak; kind <= api.TrDivide; kind++ {
		enough(t, fmt.Sprint("traps ", kind), calls[200+kind], 100)
	}
}

func TestP6_1Executes(t *testing.T) {
	t.Parallel()
	source, found := random(), map[bool]int{}
	for range 5000 {
		k := randomKern(source)
		for _, p := range picks(k) {
			tid, e := kernel.Executes(k, p)
			if tid != wantExecutes(k, p) || e != api.OK {
				t.Fatalf("Executes of %v on %+v = %d, %d; want %d", p, k.Sched, tid, e, wantExecutes(k, p))
			}
			found[tid >= 0]++
		}
	}
	enough(t, "picks that execute an instruction", found[true], 1000)
	enough(t, "picks that do not", found[false], 1000)
}

func TestP6_1Run(t *testing.T) {
	source, errors := random(), map[api.Errno]int{}
	for range 600 {
		k := randomKern(source)
		l := randomPicks(source, len(k.Clocks), source.Intn(30))
		if len(l) > 0 && source.Intn(8) == 0 {
			l[source.Intn(len(l))] = among(source, api.Pick{Cpu: len(k.Clocks)}, api.Pick{Kind: 3}, api.Pick{Cpu: -1}, api.Pick{Kind: -1})
		}
		should := outcome{k: k}
		for _, p := range l {
			o := wantStep(should.k, p)
			if o.e != api.OK {
				should = o
				break
			}
			should.k, should.events = o.k, append(should.events, o.events...)
		}
		if got := run(k, l); !same(got, should) {
			t.Fatalf("Run of %v on %+v = %+v; want %+v", l, k, got, should)
		}
		errors[should.e]++
	}
	for _, e := range []api.Errno{api.OK, api.ErrLong, api.ErrPick} {
		enough(t, fmt.Sprint("runs with the error ", e), errors[e], 30)
	}
}

// TestP6_1LongRuns checks runs of programs: the model goes on from its own states.
func TestP6_1LongRuns(t *testing.T) {
	source, calls := random(), map[int]int{}
	for range 40 {
		k := started(t, randomBoot(t, source))
		l := randomPicks(source, len(k.Clocks), 700)
		should := outcome{k: k}
		for _, p := range l {
			o := wantStep(should.k, p)
			should.k, should.events = o.k, append(should.events, o.events...)
		}
		if got := run(k, l); !same(got, should) {
			t.Fatalf("Run of %v on %+v = %+v; want %+v", l, k, got, should)
		}
		tally(calls, should.events)
	}
	for n := range 13 {
		enough(t, fmt.Sprint("system calls ", n), calls[n], 10)
	}
}

// TestP6_1RunOfMany checks the greatest number of picks, and one more.
func TestP6_1RunOfMany(t *testing.T) {
	k := started(t, api.Boot{Rates: []int64{1}, Blocks: 1, Quantum: 3, Programs: []api.Program{program(t, "l: jump l")}})
	l := make([]api.Pick, 2000)
	if o := run(k, l); o.e != api.OK || o.k.Clocks[0].Now != 2000 || len(o.events) != 2000 {
		t.Errorf("Run of 2000 picks: %d, %d events, %v", o.e, len(o.events), o.k.Clocks)
	}
	for _, l := range [][]api.Pick{make([]api.Pick, 2001), slices.Repeat([]api.Pick{{Cpu: 7}}, 2001), make([]api.Pick, 100000)} {
		if o := run(k, l); !same(o, outcome{e: api.ErrLong}) {
			t.Errorf("Run of %d picks: %+v; want ErrLong", len(l), o)
		}
	}
	if o := run(k, nil); !same(o, outcome{k: k}) {
		t.Errorf("Run of no pick: %+v", o)
	}
}

func TestP6_1Enabled(t *testing.T) {
	t.Parallel()
	source, found := random(), map[bool]int{}
	for range 2500 {
		k := randomKern(source)
		got, e := kernel.Enabled(k)
		if should := wantEnabled(k); e != api.OK || !slices.Equal(got, should) {
			t.Fatalf("Enabled of %+v = %v, %d; want %v", k, got, e, should)
		}
		for _, p := range picks(k) {
			found[slices.Contains(got, p)]++
		}
	}
	enough(t, "picks that are enabled", found[true], 1000)
	enough(t, "picks that are not", found[false], 1000)
}

func TestP6_1CurrentAndSpace(t *testing.T) {
	source := random()
	for range 1000 {
		k := randomKern(source)
		for cpu := -1; cpu <= len(k.Clocks); cpu++ {
			n, e := kernel.Current(k, cpu)
			want, should := 0, api.ErrNone
			if cpu >= 0 && cpu < len(k.Clocks) {
				want, should = k.Sched.Cpus[cpu].Run, api.OK
			}
			if n != want || e != should {
				t.Fatalf("Current of %d on %+v = %d, %d; want %d, %d", cpu, k.Sched, n, e, want, should)
			}
		}
		for pid := -1; pid <= len(k.Procs); pid++ {
			s, e := kernel.Space(k, pid)
			want, should := api.Space{}, api.ErrNone
			if pid >= 0 && pid < len(k.Procs) {
				want, should = k.Procs[pid].Space, api.OK
			}
			if !equalSpaces(s, want) || e != should {
				t.Fatalf("Space of %d = %v, %d; want %v, %d", pid, s, e, want, should)
			}
		}
	}
}

// control is what Stop, Kill and Poke return.
type control struct {
	k   api.Kern
	did bool
	e   api.Errno
}

func sameControl(a, b control) bool { return a.did == b.did && a.e == b.e && equal(a.k, b.k) }

func stop(k api.Kern, tid int) (c control) {
	c.k, c.did, c.e = kernel.Stop(k, tid)
	return c
}

func kill(k api.Kern, pid int, status int64) (c control) {
	c.k, c.did, c.e = kernel.Kill(k, pid, status)
	return c
}

func poke(k api.Kern, pid int, at int64, b []byte) (c control) {
	c.k, c.did, c.e = kernel.Poke(k, pid, at, b)
	return c
}

func wantStop(k api.Kern, tid int) control {
	if tid < 0 || tid >= len(k.Threads) {
		return control{e: api.ErrNone}
	}
	behind := copied(k)
	slot := &behind.Sched.Threads[tid]
	if slot.State > api.StRun {
		return control{k: behind}
	}
	q := &behind.Sched.Cpus[slot.Cpu]
	if slot.State == api.StRun {
		q.Run, q.Left = -1, 0
	}
	q.Ready = slices.DeleteFunc(q.Ready, func(x int) bool { return x == tid })
	slot.State = api.StBlock
	behind.Threads[tid].Wait = api.WtStop
	return control{k: behind, did: true}
}

func wantKill(k api.Kern, pid int, status int64) control {
	if pid < 0 || pid >= len(k.Procs) {
		return control{e: api.ErrNone}
	}
	m := &model{Kern: copied(k)}
	if !k.Procs[pid].Dead {
		m.killed(pid, status)
	}
	return control{k: m.Kern, did: !k.Procs[pid].Dead}
}

func wantPoke(k api.Kern, pid int, at int64, b []byte) control {
	if pid < 0 || pid >= len(k.Procs) {
		return control{e: api.ErrNone}
	}
	if len(b) > 64 {
		return control{e: api.ErrLong}
	}
	behind := copied(k)
	if len(b) == 0 || !reachable(k.Procs[pid].Space, at, len(b), 2) {
		return control{k: behind}
	}
	copy(behind.Procs[pid].Space.Bytes[at:], b)
	return control{k: behind, did: true}
}

func TestP6_1Stop(t *testing.T) {
	t.Parallel()
	source, did := random(), map[bool]int{}
	for range 2000 {
		k := randomKern(source)
		for tid := -1; tid <= len(k.Threads); tid++ {
			got, should := stop(k, tid), wantStop(k, tid)
			if !sameControl(got, should) {
				t.Fatalf("Stop of %d on %+v = %+v; want %+v", tid, k, got, should)
			}
			did[got.did]++
		}
	}
	enough(t, "threads that are stopped", did[true], 1000)
	enough(t, "threads that are not", did[false], 1000)
}

func TestP6_1Kill(t *testing.T) {
	source, did, requests := random(), map[bool]int{}, 0
	for range 2000 {
		k := randomKern(source)
		for pid := -1; pid <= len(k.Procs); pid++ {
			status := randomNumber(source)
			got, should := kill(k, pid, status), wantKill(k, pid, status)
			if !sameControl(got, should) {
				t.Fatalf("Kill of %d on %+v = %+v; want %+v", pid, k, got, should)
			}
			did[got.did]++
			if got.did {
				requests += len(k.Disk.Queue) - len(got.k.Disk.Queue)
			}
		}
	}
	enough(t, "processes that are killed", did[true], 1000)
	enough(t, "processes that are dead already", did[false], 200)
	enough(t, "requests that are removed", requests, 300)
}

func TestP6_1Poke(t *testing.T) {
	source, did := random(), map[bool]int{}
	for range 2000 {
		k := randomKern(source)
		for pid := -1; pid <= len(k.Procs); pid++ {
			b := make([]byte, among(source, 0, 1, 8, 64, 65, source.Intn(80)))
			source.Read(b)
			at := among(source, randomNumber(source), int64(source.Intn(400)))
			got, should := poke(k, pid, at, b), wantPoke(k, pid, at, b)
			if !sameControl(got, should) {
				t.Fatalf("Poke of %d bytes at %d of %d on %+v = %+v; want %+v", len(b), at, pid, k, got, should)
			}
			did[got.did]++
		}
	}
	enough(t, "bytes that are written", did[true], 300)
	enough(t, "bytes that are not", did[false], 300)
}
