package mem_test

import (
	"math/rand"
	"slices"
	"strings"
	"testing"

	"tapline/api"
	"tapline/bits"
	"tapline/mem"
)

// store returns the space behind a store, and its fault.
func store(t *testing.T, s api.Space, at int64, x api.Int, v int64) (api.Space, api.Fault) {
	t.Helper()
	changed, f, e := mem.Store(s, at, x, v)
	if e != api.OK {
		t.Fatalf("Store at %d, %v has the error %d", at, x, e)
	}
	return changed, f
}

func randomType(source *rand.Rand) api.Int { return types[source.Intn(len(types))] }

func randomValue(source *rand.Rand) int64 { return int64(source.Uint64()) >> source.Intn(64) }

func overlap(a int64, m int, b int64, n int) bool { return a < b+int64(n) && b < a+int64(m) }

// enough reports a test that tried too few of what it is about.
func enough(t *testing.T, what string, n, least int) {
	t.Helper()
	if n < least {
		t.Errorf("only %d %s", n, what)
	}
}

func TestP3_2LoadAfterStore(t *testing.T) {
	source, stores, apart := random(), 0, 0
	for range 5000 {
		s := randomSpace(source)
		at, x, v := randomAddress(source, s), randomType(source), randomValue(source)
		changed, f := store(t, s, at, x, v)
		if f != (api.Fault{}) {
			continue
		}
		stores++
		wrapped, _ := bits.Wrap(x, v)
		if got := load(changed, at, x); got != (loaded{v: wrapped}) {
			t.Fatalf("Load behind Store at %d, %v, %d = %v; want %d", at, x, v, got, wrapped)
		}
		b, _ := bits.Bytes(x, v)
		if got := peek(changed, at, x.Size); got != (found{bytes: string(b)}) {
			t.Fatalf("Peek behind Store at %d, %v, %d = %+v; want %v", at, x, v, got, b)
		}
		if !slices.Equal(changed.Perm, s.Perm) || len(changed.Bytes) != len(s.Bytes) {
			t.Fatalf("Store changes the permissions %v to %v", s.Perm, changed.Perm)
		}
		for i := range s.Bytes {
			if !overlap(at, x.Size, int64(i), 1) && changed.Bytes[i] != s.Bytes[i] {
				t.Fatalf("Store at %d, %v changes the byte at %d", at, x, i)
			}
		}
		for range 8 {
			from, y := at+int64(source.Intn(40)-20), randomType(source)
			if overlap(at, x.Size, from, y.Size) {
				continue
			}
			apart++
			if got, want := load(changed, from, y), load(s, from, y); got != want {
				t.Fatalf("Store at %d, %v changes Load at %d, %v from %v to %v", at, x, from, y, want, got)
			}
		}
	}
	enough(t, "stores without a fault", stores, 1000)
	enough(t, "loads beside a store", apart, 1000)
}

func TestP3_3DisjointStores(t *testing.T) {
	source, both, one := random(), 0, 0
	for range 20000 {
		s := randomSpace(source)
		at, x, v := randomAddress(source, s), randomType(source), randomValue(source)
		from, y, w := at+int64(source.Intn(33)-16), randomType(source), randomValue(source)
		if overlap(at, x.Size, from, y.Size) {
			continue
		}
		a, f := store(t, s, at, x, v)
		b, g := store(t, s, from, y, w)
		switch none := (api.Fault{}); {
		case f == none && g == none:
			both++
			ab, h := store(t, a, from, y, w)
			ba, k := store(t, b, at, x, v)
			if h != none || k != none || !equal(ab, ba) {
				t.Fatalf("stores at %d, %v and %d, %v do not commute: %v, %v", at, x, from, y, h, k)
			}
		case f == none:
			one++
			if _, h := store(t, a, from, y, w); h != g {
				t.Fatalf("a store at %d, %v changes the fault of one at %d, %v from %v to %v", at, x, from, y, g, h)
			}
		case g == none:
			one++
			if _, h := store(t, b, at, x, v); h != f {
				t.Fatalf("a store at %d, %v changes the fault of one at %d, %v from %v to %v", from, y, at, x, f, h)
			}
		}
	}
	enough(t, "pairs of stores", both, 1000)
	enough(t, "pairs with one fault", one, 500)
}

// bytewise returns the fault of the first byte, of n, that has one by itself.
func bytewise(n int, fault func(i int64) api.Fault) api.Fault {
	for i := range n {
		if f := fault(int64(i)); f != (api.Fault{}) {
			return f
		}
	}
	return api.Fault{}
}

func TestP3_4Faults(t *testing.T) {
	for _, s := range spaces() {
		for _, at := range addresses(s) {
			for _, n := range []int{0, 1, 2, 4, 8, 11, 70, 200} {
				for _, perm := range accesses {
					want := bytewise(n, func(i int64) api.Fault { return access(s, at+i, 1, perm).f })
					if got := access(s, at, n, perm); got != (accessed{want, api.OK}) {
						t.Fatalf("Access to pages %v, %d, %d, %d = %v; of its bytes: %v", s.Perm, at, n, perm, got, want)
					}
				}
			}
			for _, x := range types {
				want := bytewise(x.Size, func(i int64) api.Fault { return load(s, at+i, u1).f })
				if got := load(s, at, x).f; got != want || got != access(s, at, x.Size, api.PmRead).f {
					t.Fatalf("Load of pages %v, %d, %v: %v; of its bytes: %v", s.Perm, at, x, got, want)
				}
				want = bytewise(x.Size, func(i int64) api.Fault {
					_, f := store(t, s, at+i, u1, 1)
					return f
				})
				if _, got := store(t, s, at, x, 1); got != want || got != access(s, at, x.Size, api.PmWrite).f {
					t.Fatalf("Store to pages %v, %d, %v: %v; of its bytes: %v", s.Perm, at, x, got, want)
				}
			}
		}
	}
}

func TestP3_5Sizes(t *testing.T) {
	source, loads, stores := random(), 0, 0
	for range 10000 {
		s := randomSpace(source)
		at, v := randomAddress(source, s), randomValue(source)
		for _, whole := range []api.Int{u2, u4, u8} {
			half := api.Int{Size: whole.Size / 2}
			up, shift := at+int64(half.Size), 8*half.Size
			low, high, all := load(s, at, half), load(s, up, half), load(s, at, whole)
			switch {
			case low.f != (api.Fault{}):
				high.v, high.f = 0, low.f
			case high.f != (api.Fault{}):
				low.v = 0
			default:
				loads++
			}
			if all != (loaded{v: low.v + high.v<<shift, f: high.f}) {
				t.Fatalf("Load at %d, %v = %v; of its halves: %v, %v", at, whole, all, low, high)
			}
			want, f := store(t, s, at, half, v)
			if f == (api.Fault{}) {
				want, f = store(t, want, up, half, v>>shift)
				stores++
			}
			if got, g := store(t, s, at, whole, v); g != f || !equal(got, want) {
				t.Fatalf("Store at %d, %v, %d = %v, %v; in halves: %v, %v", at, whole, v, got, g, want, f)
			}
		}
	}
	enough(t, "loads without a fault", loads, 1000)
	enough(t, "stores without a fault", stores, 1000)
}

func TestP3_6Fetch(t *testing.T) {
	for _, s := range append(spaces(), filled(code, code), filled(readable, code, code, writable)) {
		for _, at := range addresses(s) {
			for _, n := range []int{0, 1, 5, 12, 64, 150} {
				var want strings.Builder
				for i := range int64(n) {
					if access(s, at+i, 1, api.PmExec).f != (api.Fault{}) {
						break
					}
					want.WriteString(peek(s, at+i, 1).bytes)
				}
				if got := fetch(s, at, n); got != (found{bytes: want.String()}) {
					t.Fatalf("Fetch of pages %v, %d, %d = %+v; byte by byte: %q", s.Perm, at, n, got, want.String())
				}
			}
		}
	}
}

// step returns the space behind a random Protect, Store or Seal; behind an error or a fault the space stays.
func step(source *rand.Rand, s api.Space) api.Space {
	changed, f, e := api.Space{}, api.Fault{}, api.OK
	page := source.Intn(len(s.Perm)+2) - 1
	switch source.Intn(8) {
	case 0:
		changed, e = mem.Seal(s, page)
	case 1, 2, 3:
		changed, e = mem.Protect(s, page, source.Intn(6))
	default:
		changed, f, e = mem.Store(s, randomAddress(source, s), randomType(source), randomValue(source))
	}
	if e != api.OK || f != (api.Fault{}) {
		return s
	}
	return changed
}

func TestP3_6CodeStays(t *testing.T) {
	source, sealed := random(), 0
	for range 300 {
		s := randomSpace(source)
		for range 60 {
			next := step(source, s)
			if mem.Check(next) != api.OK || len(next.Perm) != len(s.Perm) {
				t.Fatalf("pages %v become %v", s.Perm, next.Perm)
			}
			for page, perm := range s.Perm {
				if perm != code {
					continue
				}
				sealed++
				from := pageSize * page
				if next.Perm[page] != code || !slices.Equal(next.Bytes[from:from+pageSize], s.Bytes[from:from+pageSize]) {
					t.Fatalf("the code page %d changes", page)
				}
			}
			s = next
		}
	}
	enough(t, "code pages that stay", sealed, 1000)
}

func TestP3_7Differences(t *testing.T) {
	source, changes := random(), 0
	for range 500 {
		a := randomSpace(source)
		b := copied(a)
		for range source.Intn(60) {
			b.Bytes[source.Intn(len(b.Bytes))] = byte(source.Intn(256))
		}
		list, e := mem.Diff(a, b)
		back, g := mem.Diff(b, a)
		if e != api.OK || g != api.OK || len(back) != len(list) {
			t.Fatalf("Diff = %v, %d; the other way round %v, %d", list, e, back, g)
		}
		s := a
		for i, x := range list {
			if back[i] != (api.Change{At: x.At, Old: x.New, New: x.Old}) {
				t.Fatalf("Diff has %v, the other way round %v", x, back[i])
			}
			if i > 0 && list[i-1].At >= x.At {
				t.Fatalf("Diff has %v behind %v", x, list[i-1])
			}
			var f api.Fault
			s, f, e = mem.Poke(s, x.At, []byte{x.New})
			if f != (api.Fault{}) || e != api.OK {
				t.Fatalf("Poke at %d: %v, %d", x.At, f, e)
			}
		}
		changes += len(list)
		if !equal(s, b) || !mem.Same(s, b) {
			t.Fatalf("Poke of all differences yields %v; want %v", s, b)
		}
	}
	enough(t, "differences", changes, 1000)
	for _, s := range spaces() {
		if list, e := mem.Diff(s, copied(s)); len(list) != 0 || e != api.OK {
			t.Errorf("Diff of pages %v and themselves = %v, %d", s.Perm, list, e)
		}
	}
}

func TestP3_8Strings(t *testing.T) {
	source, longer := random(), 0
	for range 2000 {
		s := randomSpace(source)
		for range source.Intn(40) {
			s.Bytes[source.Intn(len(s.Bytes))] = 0
		}
		at := randomAddress(source, s)
		before := found{}
		for most := range api.MaxString + 1 {
			got := text(s, at, most)
			if got.e != api.OK || strings.ContainsRune(got.bytes, 0) || len(got.bytes) > most {
				t.Fatalf("String at %d, %d = %+v", at, most, got)
			}
			if got.f != (api.Fault{}) {
				break
			}
			if !strings.HasPrefix(got.bytes, before.bytes) {
				t.Fatalf("String at %d, %d = %q; with less: %q", at, most, got.bytes, before.bytes)
			}
			if len(got.bytes) > len(before.bytes) {
				longer++
			}
			before = got
		}
		// Behind a fault, a greater limit has the same fault.
		if last := text(s, at, api.MaxString); last.f != (api.Fault{}) && text(s, at, len(before.bytes)+1).f != last.f {
			t.Fatalf("String at %d has other faults with other limits", at)
		}
	}
	enough(t, "strings that grow", longer, 1000)
}
