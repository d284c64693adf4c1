package mem_test

import (
	"bytes"
	"math"
	"slices"
	"testing"

	"tapline/api"
	"tapline/mem"
)

// P3.1: all functions behave as the chapter describes them.

func TestP3_1Check(t *testing.T) {
	for _, s := range spaces() {
		if e := mem.Check(s); e != api.OK {
			t.Errorf("Check of pages %v = %d; want OK", s.Perm, e)
		}
	}
	for _, s := range invalidSpaces() {
		if e := mem.Check(s); e != api.ErrSpace {
			t.Errorf("Check of pages %v with %d bytes = %d; want ErrSpace", s.Perm, len(s.Bytes), e)
		}
	}
}

func TestP3_1New(t *testing.T) {
	for n := range mostPages + 1 {
		s, e := mem.New(n)
		if e != api.OK || !equal(s, api.Space{Perm: make([]int, n), Bytes: make([]byte, pageSize*n)}) {
			t.Errorf("New(%d) = %v, %d", n, s, e)
		}
	}
	for _, n := range append(strange, mostPages+1, mostPages+2, mostBytes) {
		if s, e := mem.New(n); e != api.ErrArg || !isZero(s) {
			t.Errorf("New(%d) = %v, %d; want ErrArg", n, s, e)
		}
	}
}

func TestP3_1Protect(t *testing.T) {
	numbers := append([]int{0, 1, 2, 3, 4, 5, mostPages - 1, mostPages, mostBytes}, strange...)
	wanted := append([]int{0, 1, 2, 3, 4, 5, 6, 7, 8, 9, 11, 12}, strange...)
	for _, s := range spaces() {
		for _, page := range numbers {
			for _, perm := range wanted {
				want, e := api.Space{}, api.ErrPage
				if 0 <= page && page < len(s.Perm) && s.Perm[page] != code && (perm == none || perm == readable || perm == writable) {
					want, e = copied(s), api.OK
					want.Perm[page] = perm
				}
				if got, g := mem.Protect(s, page, perm); g != e || !equal(got, want) {
					t.Fatalf("Protect of pages %v, %d, %d = %v, %d; want %v, %d", s.Perm, page, perm, got, g, want, e)
				}
			}
		}
	}
}

func TestP3_1Seal(t *testing.T) {
	for _, s := range spaces() {
		for _, page := range append([]int{0, 1, 2, 3, 4, 5, mostPages - 1, mostPages, mostBytes}, strange...) {
			want, e := api.Space{}, api.ErrPage
			if 0 <= page && page < len(s.Perm) {
				want, e = copied(s), api.OK
				want.Perm[page] = code
			}
			if got, g := mem.Seal(s, page); g != e || !equal(got, want) {
				t.Fatalf("Seal of pages %v, %d = %v, %d; want %v, %d", s.Perm, page, got, g, want, e)
			}
		}
	}
}

func TestP3_1Access(t *testing.T) {
	for _, s := range spaces() {
		cells := cellsOf(s)
		for _, at := range addresses(s) {
			for _, n := range []int{0, 1, 2, 3, 4, 7, 8, 9, 63, 64, 65, 130, mostBytes - 1, mostBytes} {
				for _, perm := range accesses {
					_, f := wantAccess(cells, at, n, perm)
					if got := access(s, at, n, perm); got != (accessed{f, api.OK}) {
						t.Fatalf("Access to pages %v, %d, %d, %d = %v; want %v", s.Perm, at, n, perm, got, f)
					}
				}
			}
		}
	}
}

func TestP3_1AccessToAll(t *testing.T) {
	all := make([]int, mostPages)
	for i := range all {
		all[i] = readable
	}
	s := filled(all...)
	if got := access(s, 0, mostBytes, api.PmRead); got != (accessed{}) {
		t.Errorf("Access to all bytes of the largest space = %v; want none", got)
	}
	if got, want := access(s, 1, mostBytes, api.PmRead), (accessed{f: api.Fault{Kind: api.FtMap, At: mostBytes}}); got != want {
		t.Errorf("Access beyond the largest space = %v; want %v", got, want)
	}
}

func TestP3_1Load(t *testing.T) {
	for _, s := range spaces() {
		cells := cellsOf(s)
		for _, at := range addresses(s) {
			for _, x := range types {
				b, f := wantAccess(cells, at, x.Size, api.PmRead)
				want := loaded{f: f}
				if f == (api.Fault{}) {
					want.v = wantValue(x, b)
				}
				if got := load(s, at, x); got != want {
					t.Fatalf("Load of pages %v, %d, %v = %v; want %v", s.Perm, at, x, got, want)
				}
			}
		}
	}
}

func values() []int64 {
	return []int64{0, 1, -1, 127, 128, 255, 256, 258, -129, 65535, 65536, -32769, 1<<32 - 1, 1 << 32, 0x123456789abcdef, -0x123456789abcdef, math.MaxInt64, math.MinInt64}
}

func TestP3_1Store(t *testing.T) {
	for _, s := range spaces() {
		for i, at := range addresses(s) {
			for _, x := range types {
				v := values()[i%len(values())]
				want, f := wantWritten(s, at, wantBytes(x.Size, v), api.PmWrite)
				if got, g, e := mem.Store(s, at, x, v); g != f || e != api.OK || !equal(got, want) {
					t.Fatalf("Store to pages %v, %d, %v, %d = %v, %v, %d; want %v, %v", s.Perm, at, x, v, got, g, e, want, f)
				}
			}
		}
	}
	s := filled(writable)
	for _, v := range values() {
		for _, x := range types {
			want, _ := wantWritten(s, 13, wantBytes(x.Size, v), api.PmWrite)
			if got, f, e := mem.Store(s, 13, x, v); f != (api.Fault{}) || e != api.OK || !equal(got, want) {
				t.Errorf("Store of %d, %v = %v, %v, %d; want %v", v, x, got, f, e, want)
			}
		}
	}
}

func TestP3_1Fetch(t *testing.T) {
	for _, s := range append(spaces(), filled(code, code, code)) {
		cells := cellsOf(s)
		for _, at := range addresses(s) {
			for _, n := range []int{0, 1, 2, 3, 4, 8, 12, 64, 65, 129, mostBytes} {
				b, _ := wantAccess(cells, at, n, api.PmExec)
				if got := fetch(s, at, n); got != (found{bytes: string(b)}) {
					t.Fatalf("Fetch of pages %v, %d, %d = %+v; want %v", s.Perm, at, n, got, b)
				}
			}
		}
	}
}

func TestP3_1Peek(t *testing.T) {
	for _, s := range spaces() {
		cells := cellsOf(s)
		for _, at := range addresses(s) {
			for _, n := range []int{0, 1, 2, 3, 4, 8, 12, 64, 65, 129, mostBytes} {
				b, f := wantAccess(cells, at, n, 0)
				if f != (api.Fault{}) {
					b = nil
				}
				if got := peek(s, at, n); got != (found{bytes: string(b), f: f}) {
					t.Fatalf("Peek of pages %v, %d, %d = %+v; want %v, %v", s.Perm, at, n, got, b, f)
				}
			}
		}
	}
}

func TestP3_1Poke(t *testing.T) {
	for _, s := range spaces() {
		for _, at := range addresses(s) {
			for _, n := range []int{0, 1, 2, 3, 12, 64, 130, mostBytes} {
				var b []byte
				for i := range n {
					b = append(b, byte(255-11*i))
				}
				want, f := wantWritten(s, at, b, 0)
				if got, g, e := mem.Poke(s, at, b); g != f || e != api.OK || !equal(got, want) {
					t.Fatalf("Poke to pages %v, %d, %d bytes = %v, %v, %d; want %v, %v", s.Perm, at, n, got, g, e, want, f)
				}
			}
		}
	}
}

// wantText returns what String returns.
func wantText(cells map[int64]cell, at int64, most int) found {
	b, f := wantAccess(cells, at, most, api.PmRead)
	if end := bytes.IndexByte(b, 0); end >= 0 {
		return found{bytes: string(b[:end])}
	}
	if f != (api.Fault{}) {
		return found{f: f}
	}
	return found{bytes: string(b)}
}

func TestP3_1String(t *testing.T) {
	source := random()
	for _, s := range spaces() {
		for _, zeros := range []int{0, 1, 6, 40} {
			x := copied(s)
			for range zeros * len(s.Perm) {
				x.Bytes[source.Intn(len(x.Bytes))] = 0
			}
			cells := cellsOf(x)
			for _, at := range addresses(x) {
				for _, most := range []int{0, 1, 2, 5, 9, 40, 63, 64} {
					if got, want := text(x, at, most), wantText(cells, at, most); got != want {
						t.Fatalf("String of pages %v, %v, %d, %d = %+v; want %+v", x.Perm, x.Bytes, at, most, got, want)
					}
				}
			}
		}
	}
}

func TestP3_1StringEnds(t *testing.T) {
	s := filled(none, readable, none)
	copy(s.Bytes[pageSize:], "abc\x00de")
	copy(s.Bytes[2*pageSize-3:], "xyz")
	for _, x := range []struct {
		at   int64
		most int
		want found
	}{
		{64, 0, found{}}, {64, 2, found{bytes: "ab"}}, {64, 3, found{bytes: "abc"}}, {64, 4, found{bytes: "abc"}}, {64, 64, found{bytes: "abc"}},
		{67, 64, found{}}, {68, 2, found{bytes: "de"}},
		{125, 3, found{bytes: "xyz"}}, {125, 4, found{f: api.Fault{Kind: api.FtRead, At: 128}}}, {128, 0, found{}}, {128, 1, found{f: api.Fault{Kind: api.FtRead, At: 128}}},
		{63, 5, found{f: api.Fault{Kind: api.FtRead, At: 63}}}, {-1, 0, found{}}, {-1, 5, found{f: api.Fault{Kind: api.FtMap, At: -1}}}, {500, 1, found{f: api.Fault{Kind: api.FtMap, At: 500}}},
	} {
		if got := text(s, x.at, x.most); got != x.want {
			t.Errorf("String at %d, %d = %+v; want %+v", x.at, x.most, got, x.want)
		}
	}
}

func TestP3_1Diff(t *testing.T) {
	source := random()
	for _, a := range spaces() {
		for _, n := range []int{0, 1, 2, 10, 100} {
			b := copied(a)
			for range min(n, len(b.Bytes)) {
				b.Bytes[source.Intn(len(b.Bytes))] = byte(source.Intn(256))
			}
			var want []api.Change
			for at := range len(a.Bytes) {
				if a.Bytes[at] != b.Bytes[at] {
					want = append(want, api.Change{At: int64(at), Old: a.Bytes[at], New: b.Bytes[at]})
				}
			}
			if got, e := mem.Diff(a, b); e != api.OK || !slices.Equal(got, want) {
				t.Fatalf("Diff of pages %v = %v, %d; want %v", a.Perm, got, e, want)
			}
		}
	}
}

func TestP3_1DiffOfOtherPages(t *testing.T) {
	for _, a := range append(spaces(), invalidSpaces()...) {
		for _, b := range append(spaces(), invalidSpaces()...) {
			want := api.OK
			switch {
			case mem.Check(a) != api.OK || mem.Check(b) != api.OK:
				want = api.ErrSpace
			case !slices.Equal(a.Perm, b.Perm):
				want = api.ErrArg
			}
			if got, e := mem.Diff(a, b); e != want || e != api.OK && len(got) != 0 {
				t.Fatalf("Diff of pages %v and %v = %v, %d; want %d", a.Perm, b.Perm, got, e, want)
			}
		}
	}
}

func TestP3_1Same(t *testing.T) {
	all := append(spaces(), invalidSpaces()...)
	for _, a := range all {
		for _, b := range all {
			if got := mem.Same(a, b); got != equal(a, b) {
				t.Fatalf("Same of %v and %v = %t", a, b, got)
			}
		}
		if !mem.Same(a, copied(a)) {
			t.Fatalf("Same of %v and a copy of it is false", a)
		}
		for i := range a.Bytes {
			b := copied(a)
			b.Bytes[i] ^= 64
			if mem.Same(a, b) || mem.Same(b, a) {
				t.Fatalf("Same of spaces that differ at %d is true", i)
			}
		}
		for i := range a.Perm {
			b := copied(a)
			b.Perm[i]++
			if mem.Same(a, b) || mem.Same(b, a) {
				t.Fatalf("Same of spaces that differ in the permission %d is true", i)
			}
		}
	}
	if !mem.Same(api.Space{}, api.Space{Perm: []int{}, Bytes: []byte{}}) || !mem.Same(api.Space{Perm: []int{}}, api.Space{Bytes: []byte{}}) {
		t.Errorf("Same of nil and empty lists is false")
	}
}

func TestP3_1Examples(t *testing.T) {
	s := sample()
	stored, f, e := mem.Store(s, 60, u4, 258)
	if f != (api.Fault{}) || e != api.OK || load(stored, 60, u4) != (loaded{v: 258}) || load(stored, 60, u1) != (loaded{v: 2}) {
		t.Errorf("Store(s, 60, u4, 258) = %v, %v, %d", stored, f, e)
	}
	if x, f, e := mem.Store(s, 62, u4, 1); f != (api.Fault{Kind: api.FtWrite, At: 64}) || e != api.OK || !isZero(x) {
		t.Errorf("Store(s, 62, u4, 1) = %v, %v, %d", x, f, e)
	}
	for _, x := range []struct {
		at   int64
		t    api.Int
		want api.Fault
	}{
		{62, u4, api.Fault{}}, {126, u4, api.Fault{Kind: api.FtRead, At: 128}}, {190, u4, api.Fault{Kind: api.FtRead, At: 190}},
		{500, u1, api.Fault{Kind: api.FtMap, At: 500}}, {-1, u4, api.Fault{Kind: api.FtMap, At: -1}},
	} {
		if got := load(s, x.at, x.t); got != (loaded{f: x.want}) {
			t.Errorf("Load(s, %d, %v) = %v; want %v", x.at, x.t, got, x.want)
		}
	}
	if got := fetch(s, 126, 4); got != (found{}) {
		t.Errorf("Fetch(s, 126, 4) = %+v", got)
	}
	if got := fetch(s, 190, 4); got != (found{bytes: "\x00\x00"}) {
		t.Errorf("Fetch(s, 190, 4) = %+v", got)
	}
	if got := peek(s, 190, 4); got != (found{f: api.Fault{Kind: api.FtMap, At: 192}}) {
		t.Errorf("Peek(s, 190, 4) = %+v", got)
	}
	if x, e := mem.Protect(s, 2, api.PmRead); e != api.ErrPage || !isZero(x) {
		t.Errorf("Protect(s, 2, PmRead) = %v, %d", x, e)
	}
	if x, e := mem.Protect(s, 1, api.PmExec); e != api.ErrPage || !isZero(x) {
		t.Errorf("Protect(s, 1, PmExec) = %v, %d", x, e)
	}
	if x, e := mem.Seal(s, 1); e != api.OK || !slices.Equal(x.Perm, []int{writable, code, code}) {
		t.Errorf("Seal(s, 1) = %v, %d", x, e)
	}
}
