package kernel_test

import (
	"fmt"
	"slices"
	"strconv"
	"strings"
	"testing"

	"tapline/api"
	"tapline/kernel"
)

// P6.1: scenes, which show transitions and their events as texts.

// names returns the names of the kinds of events, and how many arguments each has.
func names(kind int) (string, int) {
	switch kind {
	case api.EvInsn:
		return "insn", 1
	case api.EvEntry:
		return "entry", 4
	case api.EvReturn:
		return "return", 2
	case api.EvOn:
		return "on", 1
	case api.EvOff:
		return "off", 1
	case api.EvEnqueue:
		return "enqueue", 2
	case api.EvWake:
		return "wake", 1
	case api.EvStart:
		return "start", 2
	case api.EvDone:
		return "done", 2
	case api.EvTick:
		return "tick", 0
	case api.EvSpawn:
		return "spawn", 1
	case api.EvExit:
		return "exit", 1
	case api.EvFault:
		return "fault", 3
	}
	return "?", 6
}

// line writes an event: its name and its thread, the address if it has one, and the arguments.
func line(e api.Event) string {
	name, n := names(e.Kind)
	text := fmt.Sprintf("%s t%d", name, e.Tid)
	if e.Kind == api.EvInsn || e.Kind == api.EvFault {
		text += fmt.Sprintf(" @%d", e.At)
	}
	for _, x := range e.Args[:n] {
		text += fmt.Sprintf(" %d", x)
	}
	return text
}

// lines writes events, whose processor, time and process have to be those of the transition.
func lines(t *testing.T, k api.Kern, p api.Pick, behind api.Kern, l []api.Event) string {
	t.Helper()
	var texts []string
	for _, e := range l {
		_, n := names(e.Kind)
		pid := -1
		if e.Tid >= 0 {
			pid = behind.Threads[e.Tid].Pid
		}
		plain := e.Kind == api.EvInsn || e.Kind == api.EvFault || e.At == 0
		rest := slices.ContainsFunc(e.Args[n:], func(x int64) bool { return x != 0 })
		if e.Cpu != p.Cpu || e.Time != k.Clocks[p.Cpu].Now || e.Pid != pid || !plain || rest {
			t.Errorf("%v has the event %+v", p, e)
		}
		texts = append(texts, line(e))
	}
	return strings.Join(texts, "; ")
}

// play makes transitions: `s0: ` and the events of a step of processor 0, `t0: ` of a timer interrupt, `d0: ` of one of the device; `s0*3` makes three whose events are not shown.
func play(t *testing.T, k api.Kern, scene ...string) api.Kern {
	t.Helper()
	for i, text := range scene {
		head, want, shown := strings.Cut(text, ": ")
		place, count, many := strings.Cut(head, "*")
		p := api.Pick{Cpu: int(place[1] - '0'), Kind: strings.IndexByte("std", place[0])}
		n := 1
		if many {
			n, _ = strconv.Atoi(count)
		}
		for range n {
			o := step(k, p)
			if o.e != api.OK {
				t.Fatalf("%d, %q: the error %d", i, text, o.e)
			}
			if got := lines(t, k, p, o.k, o.events); shown && got != want {
				t.Fatalf("%d, %s: %s\nwant %s", i, head, got, want)
			}
			if now := k.Clocks[p.Cpu].Now + k.Clocks[p.Cpu].Rate; o.k.Clocks[p.Cpu].Now != now {
				t.Fatalf("%d, %s: the clock is %d; want %d", i, head, o.k.Clocks[p.Cpu].Now, now)
			}
			k = o.k
		}
	}
	return k
}

// stage returns the first state of a configuration with so many processors (Rate 2, Quantum 4) and these programs (Pri 3), and two blocks.
func stage(t *testing.T, cpus int, texts ...string) api.Kern {
	t.Helper()
	b := api.Boot{Rates: slices.Repeat([]int64{2}, cpus), Blocks: 2, Quantum: 4}
	for _, text := range texts {
		b.Programs = append(b.Programs, program(t, text))
	}
	return started(t, b)
}

func is[T comparable](t *testing.T, what string, got, want T) {
	t.Helper()
	if got != want {
		t.Errorf("%s: %v; want %v", what, got, want)
	}
}

func TestP6_1Examples(t *testing.T) {
	k := play(t, stage(t, 1, "sys 2\nnop"), "s0: on t0 3")
	is(t, "Left", k.Sched.Cpus[0].Left, 4)
	k = play(t, k, "s0: insn t0 @0 33; entry t0 2 0 0 0; return t0 2 0")
	is(t, "R[0]", k.Threads[0].Regs.R[0], 0)
	k = play(t, k, "s0: insn t0 @2 1", "s0: fault t0 @3 4 0 0; exit t0 132; off t0 4")
	is(t, "Dead", k.Procs[0].Dead, true)
	is(t, "Status", k.Procs[0].Status, 132)
	k = play(t, k, "t0: tick t-1", "d0: ", "s0: ")
	is(t, "Now", k.Clocks[0].Now, 14)
}

func TestP6_1Switches(t *testing.T) {
	k := stage(t, 1, "nop\nnop\nnop\nnop\nnop\nnop\nnop", "nop", "nop")
	k.Sched.Threads[2].Pri = 5
	k.Sched.Cpus[0].Ready = []int{2, 0, 1}
	k = play(t, k, "s0: on t2 5", "t0: tick t2")
	k, _, _ = kernel.Stop(k, 2)
	k = play(t, k, "s0: on t0 3", "t0: tick t0", "s0: insn t0 @0 1", "t0: tick t0", "t0: tick t0")
	is(t, "Left", k.Sched.Cpus[0].Left, 1)
	k = play(t, k, "s0: insn t0 @1 1", "t0: tick t0", "s0: off t0 1; enqueue t0 0 3; on t1 3")
	is(t, "Ready", k.Sched.Cpus[0].Ready[0], 0)
	k, _, _ = kernel.Stop(k, 1)
	k = play(t, k, "s0: on t0 3", "t0*4", "t0: tick t0")
	is(t, "Left", k.Sched.Cpus[0].Left, 0)
	k = play(t, k, "s0: insn t0 @2 1")
	is(t, "Left of a time slice that begins anew", k.Sched.Cpus[0].Left, 4)
	k = play(t, k, "t0: tick t0", "s0: insn t0 @3 1")
	is(t, "Left of one that goes on", k.Sched.Cpus[0].Left, 3)
}

func TestP6_1Steal(t *testing.T) {
	k := stage(t, 2, "nop", "nop", "nop")
	k = play(t, k, "s0: on t0 3", "s1: on t1 3")
	k, _, _ = kernel.Kill(k, 1, 0)
	k = play(t, k, "s1: enqueue t2 1 3; on t2 3", "s1: insn t2 @0 1")
	k, _, _ = kernel.Kill(k, 2, 0)
	k = play(t, k, "s1: ", "t1: tick t-1", "d1: ", "s0: insn t0 @0 1")
}

func TestP6_1Exit(t *testing.T) {
	k := stage(t, 1, "lea r0, f\nsys 4\nf: lit r0, 5\nsys 0", "nop")
	k = play(t, k, "s0: on t0 3", "s0*1", "s0: insn t0 @4 33; entry t0 4 6 0 0; spawn t2 0; enqueue t2 0 3; return t0 4 2", "s0*1")
	k = play(t, k, "s0: insn t0 @9 33; entry t0 0 5 0 0; exit t0 5; off t0 4")
	is(t, "Dead with another thread", k.Procs[0].Dead, false)
	is(t, "Status with another thread", k.Procs[0].Status, 0)
	k = play(t, k, "s0: on t1 3", "t0*4", "s0: off t1 1; enqueue t1 0 3; on t2 3", "s0*1", "s0: insn t2 @9 33; entry t2 0 5 0 0; exit t2 5; off t2 4")
	is(t, "Dead", k.Procs[0].Dead, true)
	is(t, "Status", k.Procs[0].Status, 5)
	is(t, "State", k.Sched.Threads[0].State, api.StDead)
}

func TestP6_1Numbers(t *testing.T) {
	k := stage(t, 2, "nop", "sys 1\nsys 2\nsys 10\nsys 3\nlit r0, 9\nsys 13\nsys 127")
	k = play(t, k, "s1: on t1 3", "s1: insn t1 @0 33; entry t1 1 0 0 0; return t1 1 1")
	is(t, "R[0]", k.Threads[1].Regs.R[0], 1)
	k.Procs[0], k.Procs[1], k.Threads[0].Pid, k.Threads[1].Pid = k.Procs[1], k.Procs[0], 1, 0
	k.Clocks[1] = api.Clock{Now: 77, Rate: 9}
	k = play(t, k, "s1: insn t1 @2 33; entry t1 2 1 0 0; return t1 2 1")
	k.Threads[1].Regs.Pc = 0
	k = play(t, k, "s1: insn t1 @0 33; entry t1 1 1 0 0; return t1 1 0", "s1*1", "s1: insn t1 @4 33; entry t1 10 1 0 0; return t1 10 104", "t1*2")
	is(t, "Left", k.Sched.Cpus[1].Left, 2)
	k = play(t, k, "s1: insn t1 @6 33; entry t1 3 104 0 0; return t1 3 0")
	is(t, "Left", k.Sched.Cpus[1].Left, 0)
	k = play(t, k, "s1: insn t1 @8 4")
	is(t, "Left", k.Sched.Cpus[1].Left, 4)
	play(t, k, "s1: insn t1 @11 33; entry t1 13 9 0 0; return t1 13 -1", "s1: insn t1 @13 33; entry t1 127 -1 0 0; return t1 127 -1")
}

func TestP6_1Spawn(t *testing.T) {
	k := stage(t, 2, "nop", "set r0, 1000\nlit r1, 6\nset r2, -3\nlit r5, 4\nl: sys 4\njump l")
	k.Sched.Threads[1].Pri = 6
	k = play(t, k, "s1: on t1 6", "s1*4", "s1: insn t1 @30 33; entry t1 4 1000 6 -3; spawn t2 1; enqueue t2 1 6; return t1 4 2")
	is(t, "the new thread", k.Threads[2], api.Thread{Pid: 1, Regs: api.Regs{R: [8]int64{6, 0, 0, 0, 0, 0, 0, -3}, Pc: 1000}, Sys: -1})
	is(t, "its place", k.Sched.Threads[2], api.Slot{Pri: 6, Cpu: 1, State: api.StReady})
	is(t, "the thread that made it", k.Threads[1].Regs.R[0], 2)
	k = play(t, k, "s1*26")
	is(t, "the number of threads", len(k.Threads), 16)
	k = play(t, k, "s1*1", "s1: insn t1 @30 33; entry t1 4 15 6 -3; return t1 4 -1")
	is(t, "the number of threads", len(k.Threads), 16)
}

func TestP6_1Pri(t *testing.T) {
	k := stage(t, 1, "l: lit r0, 7\nsys 5\nlit r0, 8\nsys 5\nlit r0, -1\nsys 5\nlit r0, 0\nsys 5", "nop")
	k = play(t, k, "s0*2", "s0: insn t0 @3 33; entry t0 5 7 0 0; return t0 5 3", "s0*1", "s0: insn t0 @8 33; entry t0 5 8 0 0; return t0 5 -1", "s0*1", "s0: insn t0 @13 33; entry t0 5 -1 0 0; return t0 5 -1")
	is(t, "Pri", k.Sched.Threads[0].Pri, 7)
	k = play(t, k, "s0*1", "s0: insn t0 @18 33; entry t0 5 0 0 0; return t0 5 7", "s0: off t0 1; enqueue t0 0 0; on t1 3")
	is(t, "Pri", k.Sched.Threads[0].Pri, 0)
}

func TestP6_1SleepAndWake(t *testing.T) {
	sleep := "lit r0, 9\nsys 6\nnop"
	k := stage(t, 2, sleep, sleep, sleep, "lit r0, 8\nsys 6", "lit r0, 9\nsys 7\nsys 7")
	k = play(t, k, "s0*2", "s0: insn t0 @3 33; entry t0 6 9 0 0; off t0 3")
	is(t, "asleep", k.Threads[0], api.Thread{Regs: api.Regs{R: [8]int64{9, 0, 0, 0, 0, 0, 0, 128}, Pc: 5}, Wait: api.WtSleep, Chan: 9, Sys: api.SysSleep})
	is(t, "its place", k.Sched.Threads[0], api.Slot{Pri: 3, Cpu: 0, State: api.StBlock})
	k = play(t, k, "s1*6", "s0*3", "s0: on t4 3", "s0*1")
	is(t, "another channel", k.Threads[3].Chan, 8)
	k.Sched.Threads[1].Pri = 6
	k = play(t, k, "s0: insn t4 @3 33; entry t4 7 9 0 0; wake t0 9; enqueue t0 0 3; return t0 6 0; wake t1 9; enqueue t1 1 6; return t1 6 0; wake t2 9; enqueue t2 0 3; return t2 6 0; return t4 7 3")
	is(t, "awake", k.Threads[1], api.Thread{Pid: 1, Regs: api.Regs{R: [8]int64{0, 0, 0, 0, 0, 0, 0, 128}, Pc: 5}, Sys: -1})
	is(t, "how many", k.Threads[4].Regs.R[0], 3)
	k.Threads[4].Regs.R[0] = 8
	k = play(t, k, "s0: insn t4 @5 33; entry t4 7 8 0 0; wake t3 8; enqueue t3 1 3; return t3 6 0; return t4 7 1", "s1: on t1 6")
	k.Threads[4].Regs.Pc = 5
	play(t, k, "s0: insn t4 @5 33; entry t4 7 1 0 0; return t4 7 0")
}

func TestP6_1Device(t *testing.T) {
	k := stage(t, 2, "lit r0, 1\nset r1, 64\nsys 9\nnop", "lit r0, 1\nset r1, 112\nsys 8\nnop", "lit r0, 0\nset r1, 113\nsys 8\nlit r0, 0\nset r1, 48\nsys 9\nlit r0, 2\nset r1, 64\nsys 8\nlit r0, -1\nsys 9")
	copy(k.Procs[0].Space.Bytes[60:], "....0123456789abcdef!")
	k = play(t, k, "s0*3", "s0: insn t0 @15 33; entry t0 9 1 64 0; start t0 1 1; off t0 3")
	is(t, "waiting", k.Threads[0], api.Thread{Regs: api.Regs{R: [8]int64{1, 64, 0, 0, 0, 0, 0, 128}, Pc: 17}, Wait: api.WtIo, Sys: api.SysWrite})
	k = play(t, k, "s1*3", "s1: insn t1 @15 33; entry t1 8 1 112 0; start t1 1 0; off t1 3")
	is(t, "the requests", fmt.Sprint(k.Disk.Queue), fmt.Sprint([]api.Request{{Tid: 0, Block: 1, Write: true, At: 64}, {Tid: 1, Block: 1, At: 112}}))
	k = play(t, k, "d1: done t0 1 1; enqueue t0 0 3; return t0 9 0")
	is(t, "the block", string(k.Disk.Blocks[1]), "0123456789abcdef")
	k = play(t, k, "d0: done t1 1 0; enqueue t1 1 3; return t1 8 0", "d0: ")
	is(t, "the memory", string(k.Procs[1].Space.Bytes[112:]), "0123456789abcdef")
	is(t, "ready", k.Threads[1].Wait, api.WtNone)
	k, _, _ = kernel.Stop(k, 0)
	k = play(t, k, "s0: on t2 3", "s0*2", "s0: insn t2 @15 33; entry t2 8 0 113 0; return t2 8 -1", "s0*2", "s0: insn t2 @32 33; entry t2 9 0 48 0; return t2 9 -1")
	play(t, k, "s0*2", "s0: insn t2 @49 33; entry t2 8 2 64 0; return t2 8 -1", "s0*1", "s0: insn t2 @54 33; entry t2 9 -1 64 0; return t2 9 -1")
}

// TestP6_1DeviceRefused checks requests whose memory cannot be read or written any more when they are served.
func TestP6_1DeviceRefused(t *testing.T) {
	for _, c := range []struct {
		call, perm, write int
		result            string
	}{{8, 0, 0, "-1"}, {8, readable, 0, "-1"}, {8, code, 0, "-1"}, {8, writable, 0, "0"}, {9, 0, 1, "-1"}, {9, code, 1, "-1"}, {9, readable, 1, "0"}, {9, writable, 1, "0"}} {
		k := play(t, stage(t, 1, fmt.Sprintf("lit r0, 1\nset r1, 100\nsys %d\nnop", c.call)), "s0*4")
		k.Procs[0].Space.Perm[1] = c.perm
		before := copied(k)
		k = play(t, k, fmt.Sprintf("d0: done t0 1 %d; enqueue t0 0 3; return t0 %d %s", c.write, c.call, c.result))
		is(t, "the queue", len(k.Disk.Queue), 0)
		is(t, "R[0]", fmt.Sprint(k.Threads[0].Regs.R[0]), c.result)
		if c.result == "-1" && (!equalSpaces(k.Procs[0].Space, before.Procs[0].Space) || !slices.Equal(k.Disk.Blocks[1], before.Disk.Blocks[1])) {
			t.Errorf("a transfer that is refused changes bytes")
		}
	}
}

func TestP6_1Protect(t *testing.T) {
	k := stage(t, 1, "lit r0, 1\nlit r1, 1\nsys 11\nlit r0, 1\nlit r1, 2\nsys 11\nlit r0, 0\nlit r1, 1\nsys 11\nlit r0, 2\nsys 11\nlit r0, 1\nlit r1, 0\nsys 11")
	k = play(t, k, "s0*3", "s0: insn t0 @6 33; entry t0 11 1 1 0; return t0 11 0")
	is(t, "Perm", k.Procs[0].Space.Perm[1], readable)
	k = play(t, k, "s0*2", "s0: insn t0 @14 33; entry t0 11 1 2 0; return t0 11 -1", "s0*2", "s0: insn t0 @22 33; entry t0 11 0 1 0; return t0 11 -1", "s0*1", "s0: insn t0 @27 33; entry t0 11 2 1 0; return t0 11 -1")
	is(t, "Perm", fmt.Sprint(k.Procs[0].Space.Perm), fmt.Sprint([]int{code, readable}))
	k = play(t, k, "s0*2", "s0: insn t0 @35 33; entry t0 11 1 0 0; return t0 11 0")
	is(t, "Perm", k.Procs[0].Space.Perm[1], 0)
}

func TestP6_1SysKill(t *testing.T) {
	many := "lea r0, f\nsys 4\nsys 4\nlit r0, 9\nsys 6\nf: lit r0, 1\nset r1, 64\nsys 8"
	k := stage(t, 2, "lit r0, 1\nlit r1, -6\nsys 12\nlit r0, 1\nsys 12\nlit r0, 2\nsys 12\nlit r0, -1\nsys 12\nlit r0, 0\nsys 12", many)
	k.Procs[1].Name = "q"
	// The process 1 has a thread that sleeps, one that waits for the device, and one that runs.
	k = play(t, k, "s1: on t1 3", "s1*1", "s1: insn t1 @4 33; entry t1 4 13 0 0; spawn t2 1; enqueue t2 1 3; return t1 4 2")
	k.Threads[1].Regs.R[0] = 13
	k = play(t, k, "s1*1", "s1*2", "s1: on t2 3", "s1*2", "s1: insn t2 @28 33; entry t2 8 1 64 0; start t2 1 0; off t2 3", "s1: on t3 3", "s0*3")
	k = play(t, k, "s0: insn t0 @6 33; entry t0 12 1 -6 0; exit t1 -6; exit t2 -6; exit t3 -6; off t3 4; return t0 12 0")
	is(t, "Dead", k.Procs[1].Dead, true)
	is(t, "Status", k.Procs[1].Status, -6)
	is(t, "the requests", len(k.Disk.Queue), 0)
	is(t, "Wait", k.Threads[1].Wait+k.Threads[2].Wait+int(k.Threads[1].Chan)+k.Threads[1].Sys+k.Threads[2].Sys, -2)
	is(t, "Run", k.Sched.Cpus[1].Run, -1)
	k = play(t, k, "s0*1", "s0: insn t0 @11 33; entry t0 12 1 -6 0; return t0 12 -1", "s0*1", "s0: insn t0 @16 33; entry t0 12 2 -6 0; return t0 12 -1", "s0*1", "s0: insn t0 @21 33; entry t0 12 -1 -6 0; return t0 12 -1")
	k = play(t, k, "s0*1", "s0: insn t0 @26 33; entry t0 12 0 -6 0; exit t0 -6; off t0 4")
	is(t, "R[0]", k.Threads[0].Regs.R[0], 0)
	is(t, "Status", k.Procs[0].Status, -6)
}

func TestP6_1Traps(t *testing.T) {
	for _, c := range []struct{ text, events string }{
		{"break", "fault t0 @0 2 0 0; exit t0 130; off t0 4"},
		{"load8 r1, [r7-1]", "fault t0 @0 3 1 128; exit t0 131; off t0 4"},
		{"load1 r1, [r0]", "fault t0 @0 3 2 0; exit t0 131; off t0 4"},
		{"store1 [r0+5], r1", "fault t0 @0 3 3 5; exit t0 131; off t0 4"},
		{"div r1, r2", "fault t0 @0 5 0 0; exit t0 133; off t0 4"},
		{"; no instruction", "fault t0 @0 4 0 0; exit t0 132; off t0 4"},
	} {
		before := play(t, stage(t, 1, c.text), "s0*1")
		k := play(t, before, "s0: "+c.events)
		is(t, "the registers", k.Threads[0].Regs, before.Threads[0].Regs)
		is(t, "Dead", k.Procs[0].Dead, true)
	}
	// All threads of the process end, one that runs on another processor too, and none of another process.
	k := stage(t, 2, "lea r0, f\nsys 4\nbreak\nf: nop", "nop")
	k, _, _ = kernel.Kill(k, 1, 0)
	k = play(t, k, "s0*3", "s1: enqueue t2 1 3; on t2 3", "s0: fault t0 @6 2 0 0; exit t0 130; off t0 4; exit t2 130; off t2 4")
	is(t, "Status", k.Procs[0].Status, 130)
}

// TestP6_1Effects checks what Apply takes of an effect that is given.
func TestP6_1Effects(t *testing.T) {
	k := play(t, stage(t, 1, "nop\nnop"), "s0*1")
	regs := api.Regs{R: [8]int64{4, 5, 6, 7, 8, 9, 10, 11}, Pc: 30}
	p := api.Pick{}
	for _, c := range []struct {
		what   string
		e      api.Effect
		err    api.Errno
		events string
		behind api.Regs
	}{
		{"a store", api.Effect{Regs: regs, At: 127, Data: []byte{200}, Insn: api.Insn{Op: 99}}, api.OK, "insn t0 @0 99", regs},
		{"a call", api.Effect{Regs: regs, Trap: api.Trap{Kind: 1, N: -8}}, api.OK, "insn t0 @0 0; entry t0 -8 4 5 6; return t0 -8 -1", api.Regs{R: [8]int64{-1, 5, 6, 7, 8, 9, 10, 11}, Pc: 30}},
		{"a call of the process", api.Effect{Regs: regs, Trap: api.Trap{Kind: 1, N: 1}}, api.OK, "insn t0 @0 0; entry t0 1 4 5 6; return t0 1 0", api.Regs{R: [8]int64{0, 5, 6, 7, 8, 9, 10, 11}, Pc: 30}},
		{"a break", api.Effect{Regs: regs, Trap: api.Trap{Kind: 2, Fault: api.Fault{Kind: 6, At: 7}}, Insn: api.Insn{Op: 1}}, api.OK, "fault t0 @0 2 6 7; exit t0 130; off t0 4", k.Threads[0].Regs},
		{"a store into code", api.Effect{At: 63, Data: []byte{1}}, api.ErrEffect, "", regs},
		{"a store with a trap", api.Effect{At: 64, Data: []byte{1}, Trap: api.Trap{Kind: 6}}, api.ErrEffect, "", regs},
		{"an address alone", api.Effect{At: 64, Trap: api.Trap{Kind: -1}}, api.ErrEffect, "", regs},
		{"a long store", api.Effect{At: 64, Data: make([]byte, 9)}, api.ErrEffect, "", regs},
		{"a trap below 0", api.Effect{Trap: api.Trap{Kind: -1}}, api.ErrArg, "", regs},
		{"a trap above 5", api.Effect{Trap: api.Trap{Kind: 6}}, api.ErrArg, "", regs},
	} {
		o := apply(k, p, c.e)
		if o.e != c.err || o.e != api.OK && !same(o, outcome{e: c.err}) {
			t.Errorf("%s: %+v; want the error %d", c.what, o, c.err)
		}
		if o.e != api.OK {
			continue
		}
		is(t, c.what, lines(t, k, p, o.k, o.events), c.events)
		is(t, c.what, o.k.Threads[0].Regs, c.behind)
		should := list(k.Procs[0].Space.Bytes)
		copy(should[c.e.At:], c.e.Data)
		is(t, c.what, string(o.k.Procs[0].Space.Bytes), string(should))
	}
}
