package mem_test

import (
	"math"
	"testing"

	"tapline/api"
	"tapline/mem"
)

// P3.1, P1 and P2 for arguments that are not valid: the error named first, and zero values beside it.

// expect reports a call whose error is not the wanted one, or that has other results beside it.
func expect(t *testing.T, call string, got, want api.Errno, zero bool) {
	t.Helper()
	if got != want || !zero {
		t.Errorf("%s has the error %d; want %d and zero values (these: %t)", call, got, want, zero)
	}
}

// TestP3_1InvalidSpace checks that an invalid space is told before anything else that is wrong.
func TestP3_1InvalidSpace(t *testing.T) {
	none := api.Fault{}
	for _, s := range invalidSpaces() {
		for _, wrong := range []bool{false, true} {
			page, perm, n, x, b := 0, api.PmRead, 1, u1, []byte{1}
			if wrong {
				page, perm, n, x, b = -1, 9, -1, api.Int{Size: 3}, make([]byte, mostBytes+1)
			}
			for _, at := range []int64{0, -1, 64} {
				changed, e := mem.Protect(s, page, perm)
				expect(t, "Protect", e, api.ErrSpace, isZero(changed))
				changed, e = mem.Seal(s, page)
				expect(t, "Seal", e, api.ErrSpace, isZero(changed))
				f, e := mem.Access(s, at, n, perm)
				expect(t, "Access", e, api.ErrSpace, f == none)
				v, f, e := mem.Load(s, at, x)
				expect(t, "Load", e, api.ErrSpace, f == none && v == 0)
				changed, f, e = mem.Store(s, at, x, 1)
				expect(t, "Store", e, api.ErrSpace, f == none && isZero(changed))
				got, e := mem.Fetch(s, at, n)
				expect(t, "Fetch", e, api.ErrSpace, len(got) == 0)
				got, f, e = mem.Peek(s, at, n)
				expect(t, "Peek", e, api.ErrSpace, f == none && len(got) == 0)
				changed, f, e = mem.Poke(s, at, b)
				expect(t, "Poke", e, api.ErrSpace, f == none && isZero(changed))
				text, f, e := mem.String(s, at, n)
				expect(t, "String", e, api.ErrSpace, f == none && text == "")
			}
		}
		for _, other := range []api.Space{{}, sample(), s} {
			list, e := mem.Diff(s, other)
			expect(t, "Diff", e, api.ErrSpace, len(list) == 0)
			list, e = mem.Diff(other, s)
			expect(t, "Diff", e, api.ErrSpace, len(list) == 0)
		}
	}
}

// TestP3_1InvalidType checks that an invalid type is told even if the access would have a fault.
func TestP3_1InvalidType(t *testing.T) {
	for _, s := range spaces() {
		for _, x := range invalidTypes {
			for _, at := range []int64{0, -1, 10, 1 << 40, math.MinInt64} {
				if got := load(s, at, x); got != (loaded{e: api.ErrInt}) {
					t.Errorf("Load at %d, %v = %v; want ErrInt", at, x, got)
				}
				if changed, f, e := mem.Store(s, at, x, 5); e != api.ErrInt || f != (api.Fault{}) || !isZero(changed) {
					t.Errorf("Store at %d, %v = %v, %v, %d; want ErrInt", at, x, changed, f, e)
				}
			}
		}
	}
}

// TestP3_1InvalidLength checks numbers of bytes, also where the access would have a fault or more.
func TestP3_1InvalidLength(t *testing.T) {
	for _, s := range spaces() {
		for _, at := range []int64{0, -1, 64, 1 << 40, math.MaxInt64} {
			for _, n := range append(strange, mostBytes+1, mostBytes+64) {
				for _, perm := range append(accesses, 0, 9) {
					if got := access(s, at, n, perm); got != (accessed{e: api.ErrArg}) {
						t.Errorf("Access at %d, %d, %d = %v; want ErrArg", at, n, perm, got)
					}
				}
				if got := fetch(s, at, n); got != (found{e: api.ErrArg}) {
					t.Errorf("Fetch at %d, %d = %v; want ErrArg", at, n, got)
				}
				if got := peek(s, at, n); got != (found{e: api.ErrArg}) {
					t.Errorf("Peek at %d, %d = %v; want ErrArg", at, n, got)
				}
			}
			for _, most := range append(strange, api.MaxString+1, mostBytes) {
				if got := text(s, at, most); got != (found{e: api.ErrArg}) {
					t.Errorf("String at %d, %d = %v; want ErrArg", at, most, got)
				}
			}
			for _, n := range []int{mostBytes + 1, mostBytes + 64, 3 * mostBytes} {
				if changed, f, e := mem.Poke(s, at, make([]byte, n)); e != api.ErrLong || f != (api.Fault{}) || !isZero(changed) {
					t.Errorf("Poke at %d, %d bytes = %v, %v, %d; want ErrLong", at, n, changed, f, e)
				}
			}
		}
	}
}

func TestP3_1InvalidPermission(t *testing.T) {
	for _, s := range spaces() {
		for _, perm := range append(strange, 0, 3, 5, 6, 7, 8, 16) {
			for _, n := range []int{0, 1, mostBytes} {
				for _, at := range []int64{0, -1, 64} {
					if got := access(s, at, n, perm); got != (accessed{e: api.ErrArg}) {
						t.Errorf("Access at %d, %d, %d = %v; want ErrArg", at, n, perm, got)
					}
				}
			}
		}
	}
}

// TestP1Arguments checks that no function changes a space or bytes that are passed to it, or keeps or returns their memory.
func TestP1Arguments(t *testing.T) {
	argument := filled(writable, readable, code, writable)
	before := copied(argument)
	data := []byte{1, 2, 3}
	var results []api.Space
	take := func(s api.Space, e api.Errno) {
		if e != api.OK {
			t.Errorf("a call has the error %d", e)
		}
		results = append(results, s)
	}
	keep := func(s api.Space, f api.Fault, e api.Errno) {
		if f != (api.Fault{}) {
			t.Errorf("a call has the fault %v", f)
		}
		take(s, e)
	}
	take(mem.Protect(argument, 0, writable))
	take(mem.Protect(argument, 0, none))
	take(mem.Seal(argument, 2))
	take(mem.Seal(argument, 1))
	keep(mem.Store(argument, 10, u8, 77))
	keep(mem.Poke(argument, 60, data))
	keep(mem.Poke(argument, 60, nil))
	// A store that fails at its second half leaves nothing behind.
	if _, f, _ := mem.Store(argument, 60, u8, -1); f != (api.Fault{Kind: api.FtWrite, At: 64}) {
		t.Errorf("Store at 60 has the fault %v", f)
	}
	b, e := mem.Fetch(argument, 130, 5)
	peeked, f, g := mem.Peek(argument, 5, 5)
	if len(b) != 5 || e != api.OK || len(peeked) != 5 || f != (api.Fault{}) || g != api.OK {
		t.Errorf("Fetch = %v, %d; Peek = %v, %v, %d", b, e, peeked, f, g)
	}
	clear(b)
	clear(peeked)
	for i, s := range results {
		for j := range s.Perm {
			s.Perm[j] = 1000 + i
		}
		for j := range s.Bytes {
			s.Bytes[j] = byte(200 + i)
		}
	}
	if !equal(argument, before) || data[0] != 1 || data[1] != 2 || data[2] != 3 {
		t.Errorf("the arguments are now %v and %v", argument, data)
	}
	for i, s := range results {
		for j, perm := range s.Perm {
			if perm != 1000+i {
				t.Errorf("the permission %d of result %d is that of another result", j, i)
			}
		}
		for j, value := range s.Bytes {
			if value != byte(200+i) {
				t.Errorf("the byte %d of result %d is that of another result", j, i)
			}
		}
	}
}

// TestP1ArgumentsOfDiff checks the functions with two spaces, and those that only read.
func TestP1ArgumentsOfDiff(t *testing.T) {
	for _, a := range append(spaces(), invalidSpaces()...) {
		b, before := copied(a), copied(a)
		mem.Check(a)
		mem.Diff(a, b)
		mem.Same(a, b)
		for _, at := range []int64{0, 60, 62, 100} {
			mem.Load(a, at, u4)
			mem.String(a, at, 64)
			mem.Access(a, at, 100, api.PmWrite)
			mem.Store(a, at, u8, -1)
			mem.Poke(a, at, make([]byte, 100))
		}
		if !equal(a, before) || !equal(b, before) {
			t.Fatalf("a call changes its argument %v to %v", before, a)
		}
	}
}

// TestP1NoState checks that a call does not depend on those before it.
func TestP1NoState(t *testing.T) {
	s := filled(writable, none, code)
	first := []any{load(s, 3, u8), load(s, 63, u8), fetch(s, 128, 9), peek(s, 60, 9), text(s, 5, 9), access(s, 60, 9, api.PmWrite)}
	mem.Store(s, 3, u8, 5)
	mem.Poke(s, 128, make([]byte, 9))
	mem.Seal(s, 0)
	again := []any{load(s, 3, u8), load(s, 63, u8), fetch(s, 128, 9), peek(s, 60, 9), text(s, 5, 9), access(s, 60, 9, api.PmWrite)}
	for i := range first {
		if first[i] != again[i] {
			t.Errorf("call %d returns %v, later %v", i, first[i], again[i])
		}
	}
}
