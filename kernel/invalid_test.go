package kernel_test

import (
	"reflect"
	"slices"
	"sync"
	"testing"

	"tapline/api"
	"tapline/kernel"
)

// P6.1 and P1 for arguments that are not valid: the error named first, and zero values beside it; and what no call may do to its arguments.

// invalidStates returns states that are not valid.
func invalidStates() []api.Kern {
	l := []api.Kern{{}, {Procs: make([]api.Proc, 1)}, {Procs: make([]api.Proc, 100000), Threads: make([]api.Thread, 100000), Clocks: make([]api.Clock, 100000)}}
	for _, c := range slices.Concat(processChanges(), symbolChanges(), threadChanges(), deviceChanges()) {
		k := full()
		if c.do(&k); c.e != api.OK {
			l = append(l, k)
		}
	}
	for source := random(); len(l) < 800; {
		k := randomKern(source)
		if disturb(source, &k); !valid(k) {
			l = append(l, k)
		}
	}
	return l
}

// controls returns what Stop, Kill and Poke return of a thread or process, if it is not this error alone.
func controls(k api.Kern, n int, e api.Errno) []control {
	l := []control{stop(k, n), kill(k, n, 3), poke(k, n, 64, []byte{1}), poke(k, n, 64, nil), poke(k, n, 64, make([]byte, 65))}
	return slices.DeleteFunc(l, func(c control) bool { return sameControl(c, control{e: e}) })
}

// TestP6_1InvalidState checks that a state that is not valid is told before anything else that is wrong.
func TestP6_1InvalidState(t *testing.T) {
	refused := outcome{e: api.ErrKern}
	for i, k := range invalidStates() {
		for _, p := range []api.Pick{{}, {Kind: 1}, {Cpu: -1}, {Cpu: 1, Kind: 2}, {Kind: 3}} {
			for _, e := range []api.Effect{{}, {At: 1}, {Trap: api.Trap{Kind: 9}}} {
				if o := apply(k, p, e); !same(o, refused) {
					t.Fatalf("%d: Apply = %+v; want ErrKern", i, o)
				}
			}
			if o := step(k, p); !same(o, refused) {
				t.Fatalf("%d: Step = %+v; want ErrKern", i, o)
			}
			if tid, e := kernel.Executes(k, p); tid != 0 || e != api.ErrKern {
				t.Fatalf("%d: Executes = %d, %d; want ErrKern", i, tid, e)
			}
		}
		for _, n := range []int{0, 1, 2001} {
			if o := run(k, make([]api.Pick, n)); !same(o, refused) {
				t.Fatalf("%d: Run = %+v; want ErrKern", i, o)
			}
		}
		if l, e := kernel.Enabled(k); len(l) != 0 || e != api.ErrKern {
			t.Fatalf("%d: Enabled = %v, %d; want ErrKern", i, l, e)
		}
		for _, n := range []int{0, -1, 99} {
			if c, e := kernel.Current(k, n); c != 0 || e != api.ErrKern {
				t.Fatalf("%d: Current = %d, %d; want ErrKern", i, c, e)
			}
			if s, e := kernel.Space(k, n); !equalSpaces(s, api.Space{}) || e != api.ErrKern {
				t.Fatalf("%d: Space = %v, %d; want ErrKern", i, s, e)
			}
			if c := controls(k, n, api.ErrKern); len(c) > 0 {
				t.Fatalf("%d: Stop, Kill or Poke of %d = %+v; want ErrKern", i, n, c)
			}
		}
	}
}

// TestP6_1InvalidPick checks that a pick that is not one is told before the end of time, and before an effect that is not one.
func TestP6_1InvalidPick(t *testing.T) {
	t.Parallel()
	source, refused := random(), outcome{e: api.ErrPick}
	for range 300 {
		k := randomKern(source)
		wrong := []api.Pick{{Cpu: len(k.Clocks)}, {Cpu: len(k.Clocks), Kind: 1}, {Kind: 3}, {Kind: -1}, {Cpu: len(k.Clocks), Kind: 3}}
		for _, n := range strange {
			wrong = append(wrong, api.Pick{Cpu: n}, api.Pick{Kind: n}, api.Pick{Cpu: n, Kind: n})
		}
		for _, p := range wrong {
			if o := step(k, p); !same(o, refused) {
				t.Fatalf("Step of %v = %+v; want ErrPick", p, o)
			}
			if tid, e := kernel.Executes(k, p); tid != 0 || e != api.ErrPick {
				t.Fatalf("Executes of %v = %d, %d; want ErrPick", p, tid, e)
			}
			for _, e := range []api.Effect{{}, {At: 1}, {Trap: api.Trap{Kind: 9}}} {
				if o := apply(k, p, e); !same(o, refused) {
					t.Fatalf("Apply of %v = %+v; want ErrPick", p, o)
				}
			}
			if o := run(k, []api.Pick{p}); !same(o, refused) {
				t.Fatalf("Run of %v = %+v; want ErrPick", p, o)
			}
		}
	}
}

func TestP6_1InvalidNumbers(t *testing.T) {
	source := random()
	for range 300 {
		k := randomKern(source)
		for _, n := range strange {
			if c, e := kernel.Current(k, n); c != 0 || e != api.ErrNone {
				t.Fatalf("Current of %d = %d, %d; want ErrNone", n, c, e)
			}
			if s, e := kernel.Space(k, n); !equalSpaces(s, api.Space{}) || e != api.ErrNone {
				t.Fatalf("Space of %d = %v, %d; want ErrNone", n, s, e)
			}
			if c := controls(k, n, api.ErrNone); len(c) > 0 {
				t.Fatalf("Stop, Kill or Poke of %d = %+v; want ErrNone", n, c)
			}
		}
	}
}

// late returns a state whose processor 0 runs a thread, and has no time for a transition; processor 1 has time for one.
func late(t *testing.T) api.Kern {
	t.Helper()
	k := play(t, stage(t, 2, "nop\nnop", "nop"), "s0*1", "s1*1")
	k.Clocks[0], k.Clocks[1] = api.Clock{Now: 1<<40 - 1, Rate: 2}, api.Clock{Now: 1<<40 - 2, Rate: 2}
	return k
}

// TestP6_1ErrorOrder checks calls in which several things are wrong.
func TestP6_1ErrorOrder(t *testing.T) {
	k := late(t)
	refused, good, wrong := outcome{e: api.ErrLong}, api.Pick{Cpu: 1}, api.Pick{Cpu: 2}
	for kind := range 3 {
		for _, e := range []api.Effect{{}, {At: 1}, {Trap: api.Trap{Kind: 9}}, {At: 1, Trap: api.Trap{Kind: 9}}} {
			if o := apply(k, api.Pick{Kind: kind}, e); !same(o, refused) {
				t.Errorf("Apply of %v at the end of time = %+v; want ErrLong", e, o)
			}
		}
		if o := step(k, api.Pick{Kind: kind}); !same(o, refused) {
			t.Errorf("Step at the end of time = %+v; want ErrLong", o)
		}
	}
	if o := apply(k, good, api.Effect{At: 1, Trap: api.Trap{Kind: 9}}); !same(o, outcome{e: api.ErrEffect}) {
		t.Errorf("Apply of an address alone, with a trap that is none = %+v; want ErrEffect", o)
	}
	if o := step(k, good); o.e != api.OK || o.k.Clocks[1].Now != 1<<40 {
		t.Errorf("Step up to the end of time = %+v", o)
	}
	// A processor at the end of time still has a thread that would execute an instruction.
	if tid, e := kernel.Executes(k, api.Pick{}); tid != 0 || e != api.OK {
		t.Errorf("Executes at the end of time = %d, %d", tid, e)
	}
	for _, c := range []struct {
		l []api.Pick
		e api.Errno
	}{
		{[]api.Pick{good, {}, wrong}, api.ErrLong},
		{[]api.Pick{good, wrong, {}}, api.ErrPick},
		{[]api.Pick{good, good, wrong}, api.ErrLong},
		{slices.Repeat([]api.Pick{wrong}, 2001), api.ErrLong},
		{slices.Repeat([]api.Pick{wrong}, 2000), api.ErrPick},
	} {
		if o := run(k, c.l); !same(o, outcome{e: c.e}) {
			t.Errorf("Run of %v = %+v; want the error %d", c.l[:3], o, c.e)
		}
	}
	for _, c := range []struct {
		pid, n int
		at     int64
		want   control
	}{
		{2, 65, 64, control{e: api.ErrNone}},
		{0, 65, 64, control{e: api.ErrLong}},
		{0, 65, -1, control{e: api.ErrLong}},
		{0, 64, 65, control{k: k}},
		{0, 0, 64, control{k: k}},
	} {
		if got := poke(k, c.pid, c.at, make([]byte, c.n)); !sameControl(got, c.want) {
			t.Errorf("Poke of %d bytes at %d of %d = %+v; want %+v", c.n, c.at, c.pid, got, c.want)
		}
	}
}

// region is the memory of a slice, with the room behind its end.
type region struct{ from, to uintptr }

// regions returns the memory of all slices in a value.
func regions(v reflect.Value) []region {
	var l []region
	switch v.Kind() {
	case reflect.Struct:
		for i := range v.NumField() {
			l = append(l, regions(v.Field(i))...)
		}
	case reflect.Slice:
		if size := v.Type().Elem().Size() * uintptr(v.Cap()); size > 0 {
			l = append(l, region{v.Pointer(), v.Pointer() + size})
		}
		for i := range v.Len() {
			l = append(l, regions(v.Index(i))...)
		}
	}
	return l
}

// apart fails if two slices in these values share memory.
func apart(t *testing.T, what string, values ...any) {
	t.Helper()
	var l []region
	for _, v := range values {
		l = append(l, regions(reflect.ValueOf(v))...)
	}
	slices.SortFunc(l, func(a, b region) int {
		if a.from < b.from {
			return -1
		}
		return 1
	})
	for i := range len(l) - 1 {
		if l[i].to > l[i+1].from {
			t.Fatalf("%s: slices share memory", what)
		}
	}
}

// TestP1Memory checks that no function changes an argument, and that no slice of a result shares memory with an argument or with another one.
func TestP1Memory(t *testing.T) {
	t.Parallel()
	source, results := random(), 0
	for range 300 {
		k := randomKern(source)
		before := copied(k)
		for _, p := range picks(k) {
			e := randomEffect(source, k.Procs[0].Space)
			data := list(e.Data)
			for _, o := range []outcome{step(k, p), apply(k, p, e), run(k, []api.Pick{p, p})} {
				apart(t, "a transition", k, e.Data, o.k, o.events)
				results++
			}
			if !slices.Equal(e.Data, data) {
				t.Fatalf("Apply changes the bytes of an effect")
			}
		}
		for n := range 20 {
			b := []byte{1, 2, 3}
			for _, c := range []control{stop(k, n), kill(k, n, 5), poke(k, n, 64, b), poke(k, n, 0, nil)} {
				apart(t, "Stop, Kill or Poke", k, b, c.k)
			}
			s, _ := kernel.Space(k, n)
			apart(t, "Space", k, s)
		}
		kernel.Same(k, k)
		if !equal(k, before) {
			t.Fatalf("an argument is changed from %+v to %+v", before, k)
		}
	}
	enough(t, "transitions", results, 5000)
}

func TestP1MemoryOfNew(t *testing.T) {
	source := random()
	for range 100 {
		b := randomBoot(t, source)
		b.Programs[0].Syms = []api.Sym{{Name: "a", Size: 3}}
		// Two programs may share memory, two processes may not.
		b.Programs = append(b.Programs[:1:1], b.Programs[0])
		k, e := kernel.New(b)
		if e != api.OK {
			t.Fatalf("New has the error %d", e)
		}
		apart(t, "New", b.Rates, b.Programs[:1], k)
	}
}

// TestP1Room checks that nothing is written behind the ends of an argument's lists.
func TestP1Room(t *testing.T) {
	source := random()
	for range 200 {
		k := randomKern(source)
		k.Threads = append(list(k.Threads), api.Thread{Pid: 77})[:len(k.Threads)]
		k.Disk.Queue = append(list(k.Disk.Queue), api.Request{Tid: 77})[:len(k.Disk.Queue)]
		for _, p := range picks(k) {
			step(k, p)
			apply(k, p, api.Effect{Trap: api.Trap{Kind: 1, N: api.SysSpawn}})
			apply(k, p, api.Effect{Trap: api.Trap{Kind: 1, N: api.SysRead}})
		}
		if n := len(k.Threads); k.Threads[:n+1][n].Pid != 77 {
			t.Fatal("a thread is written behind the end of a list")
		}
		if n := len(k.Disk.Queue); k.Disk.Queue[:n+1][n].Tid != 77 {
			t.Fatal("a request is written behind the end of a list")
		}
	}
}

// TestP1NoState checks that a call does not depend on those before it, or on those at the same time.
func TestP1NoState(t *testing.T) {
	source := random()
	for range 60 {
		k := randomKern(source)
		l := picks(k)
		var first []outcome
		for _, p := range l {
			first = append(first, step(k, p))
		}
		again := make([]outcome, len(l))
		var all sync.WaitGroup
		for i := range l {
			all.Go(func() { again[i] = step(k, l[i]) })
		}
		all.Wait()
		for i := range l {
			if !same(first[i], again[i]) {
				t.Fatalf("Step of %v returns %+v, later %+v", l[i], first[i], again[i])
			}
		}
	}
}
