package cpu_test

import (
	"math"
	"testing"

	"tapline/api"
	"tapline/cpu"
)

// P4.1, P1 and P2 for arguments that are not valid: the error named first, and zero values beside it.

// TestP4_1InvalidSpace checks that an invalid space is told before anything else that is wrong.
func TestP4_1InvalidSpace(t *testing.T) {
	instructions := append(invalidInstructions(), api.Insn{Op: api.InNop}, api.Insn{Op: api.InPush, A: 1})
	effects := []api.Effect{{}, {At: 3}, {At: 3, Data: []byte{1}}, {Data: make([]byte, 9)}, {Data: []byte{1}, Trap: api.Trap{Kind: 1}}}
	for _, s := range invalidSpaces() {
		for _, r := range []api.Regs{{}, regs(-1, 1, 2), regs(64, 7, 8)} {
			for _, x := range instructions {
				if effect, e := cpu.Exec(x, s, r); e != api.ErrSpace || !equal(effect, api.Effect{}) {
					t.Errorf("Exec of %v = %v, %d; want ErrSpace", x, effect, e)
				}
			}
			if effect, e := cpu.Step(s, r); e != api.ErrSpace || !equal(effect, api.Effect{}) {
				t.Errorf("Step = %v, %d; want ErrSpace", effect, e)
			}
			for _, n := range []int{0, 1, 2000, -1, 2001} {
				if changed, effect, done, e := cpu.Run(s, r, n); e != api.ErrSpace || done != 0 || !equal(effect, api.Effect{}) || !isZero(changed) {
					t.Errorf("Run of %d = %v, %v, %d, %d; want ErrSpace", n, changed, effect, done, e)
				}
			}
		}
		for _, effect := range effects {
			if changed, e := cpu.Apply(s, effect); e != api.ErrSpace || !isZero(changed) {
				t.Errorf("Apply of %v = %v, %d; want ErrSpace", effect, changed, e)
			}
		}
	}
}

func TestP4_1InvalidInstruction(t *testing.T) {
	for _, x := range invalidInstructions() {
		for _, s := range spaces() {
			for _, r := range []api.Regs{{}, regs(-1, 1, 2), regs(64, 7, 8)} {
				if effect, e := cpu.Exec(x, s, r); e != api.ErrInsn || !equal(effect, api.Effect{}) {
					t.Errorf("Exec of %v = %v, %d; want ErrInsn", x, effect, e)
				}
				if got := taken(x, r); got != (truth{e: api.ErrInsn}) {
					t.Errorf("Taken of %v = %v; want ErrInsn", x, got)
				}
				if list, e := cpu.Footprint(x, r); e != api.ErrInsn || len(list) != 0 {
					t.Errorf("Footprint of %v = %v, %d; want ErrInsn", x, list, e)
				}
			}
		}
		for _, at := range []int64{0, 10, -1, math.MaxInt64} {
			if v, e := cpu.Next(x, at); e != api.ErrInsn || v != 0 {
				t.Errorf("Next of %v at %d = %d, %d; want ErrInsn", x, at, v, e)
			}
		}
	}
}

func TestP4_1InvalidCount(t *testing.T) {
	for _, s := range spaces() {
		for _, n := range []int{-1, -2, mostRuns + 1, 1 << 32, -1 << 32, 1<<32 + 1, math.MaxInt, math.MinInt, math.MinInt + 5} {
			if changed, effect, done, e := cpu.Run(s, regs(0, 7, 100), n); e != api.ErrArg || done != 0 || !equal(effect, api.Effect{}) || !isZero(changed) {
				t.Errorf("Run of %d = %v, %v, %d, %d; want ErrArg", n, changed, effect, done, e)
			}
		}
	}
}

// spoil changes all memory of a space.
func spoil(s api.Space) {
	for i := range s.Perm {
		s.Perm[i] += 100
	}
	for i := range s.Bytes {
		s.Bytes[i] += 100
	}
}

// TestP1Arguments checks that no function changes a space or bytes that are passed to it, or returns their memory.
func TestP1Arguments(t *testing.T) {
	argument := sample(0, assembled(t, "push r1\npop r2\nswap r3, [r4]\nbreak")...)
	before := copied(argument)
	r := regs(0, 1, 5, 3, 6, 4, 70, 7, 128)
	data := []byte{1, 2, 3}
	for n := range 6 {
		changed, effect, _, e := cpu.Run(argument, r, n)
		if e != api.OK {
			t.Fatalf("Run of %d has the error %d", n, e)
		}
		spoil(changed)
		clear(effect.Data)
	}
	for _, effect := range []api.Effect{{}, {At: 64, Data: data}} {
		changed, e := cpu.Apply(argument, effect)
		if e != api.OK {
			t.Fatalf("Apply has the error %d", e)
		}
		spoil(changed)
	}
	for _, line := range []string{"push r1", "swap r3, [r4]", "load8 r1, [r4]"} {
		effect := exec(t, parsed(t, line), argument, r)
		clear(effect.Data)
		clear(footprint(t, parsed(t, line), r))
	}
	if !equalSpaces(argument, before) || data[0] != 1 || data[1] != 2 || data[2] != 3 {
		t.Errorf("the arguments are now %v and %v", argument, data)
	}
}

// TestP1NoState checks that a call does not depend on those before it, nor on what becomes of their results.
func TestP1NoState(t *testing.T) {
	s := sample(0, assembled(t, "push r1\nbreak")...)
	r := regs(0, 1, 5, 7, 128)
	first, again := step(t, s, r), step(t, s, r)
	if !equal(first, again) {
		t.Fatalf("Step returns %v, and then %v", first, again)
	}
	clear(again.Data)
	list := footprint(t, first.Insn, r)
	clear(list)
	step(t, sample(0), regs(7, 1, 2))
	if last := step(t, s, r); !equal(last, first) {
		t.Errorf("Step returns %v, later %v", first, last)
	}
	if got := footprint(t, first.Insn, r); len(got) != 1 || got[0] != (api.Access{At: 120, Size: 8, Write: true}) {
		t.Errorf("Footprint returns %v later", got)
	}
}
