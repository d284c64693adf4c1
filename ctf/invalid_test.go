package ctf_test

import (
	"math"
	"reflect"
	"slices"
	"sync"
	"testing"

	"tapline/api"
	"tapline/ctf"
)

// P8.1 and P1 for arguments that are not valid: the error named first, and zero values beside it; and what no call may do to its arguments.

// noIndices are indices that no type data with n definitions has.
func noIndices(n int) []int {
	return []int{-1, n, n + 1, -n, -n - 1, math.MaxInt, math.MinInt, 1 << 32, -1 << 32}
}

// illFormed returns type data that is not well-formed, each for one reason.
func illFormed() []api.Types {
	var list []api.Types
	change := func(do func(s *api.Types)) {
		s := sample()
		do(&s)
		list = append(list, s)
	}
	change(func(s *api.Types) { s.Defs[0].Name = "char" })
	change(func(s *api.Types) { s.Defs[0].Name = "" })
	change(func(s *api.Types) { s.Defs[2].Name = "p" })
	change(func(s *api.Types) { s.Defs[0].Int.Size = 3 })
	change(func(s *api.Types) { s.Defs[0].Kind = 0 })
	change(func(s *api.Types) { s.Defs[2].Ref = 5 })
	change(func(s *api.Types) { s.Defs[2].Ref = -1 })
	change(func(s *api.Types) { s.Defs[2].Ref = 2 })
	change(func(s *api.Types) { s.Defs[3].Ref = 3 })
	change(func(s *api.Types) { s.Defs[3].N = 9 })
	change(func(s *api.Types) { s.Defs[1].Fields[0].Type = 1 })
	change(func(s *api.Types) { s.Defs[1].Fields[1].Type = 5 })
	change(func(s *api.Types) { s.Defs[1].Fields[0].At = math.MaxInt - 3 })
	change(func(s *api.Types) { s.Defs[1].Fields[2].At = math.MaxInt - 7 })
	change(func(s *api.Types) { s.Defs[1].Fields[1].Name = "t_tid" })
	change(func(s *api.Types) { s.Defs = append(s.Defs, alias("a", 6), alias("b", 5)) })
	change(func(s *api.Types) { s.Defs = append(s.Defs, array(1, 22)) })
	change(func(s *api.Types) { s.Defs = append(s.Defs, slices.Repeat([]api.Def{pointer(0)}, 196)...) })
	return append(list, types(api.Def{}), types(api.Def{Kind: -1}), api.Types{Defs: make([]api.Def, 100000)}, types(pointer(0)), types(api.Def{Kind: api.DfStruct, Name: "s", N: 8, Fields: make([]api.Field, 100000)}))
}

// refusedAll checks that each function returns ErrTypes of type data, whatever else is wrong.
func refusedAll(t *testing.T, s api.Types) {
	t.Helper()
	if e := ctf.Check(s); e != api.ErrTypes {
		t.Fatalf("Check of %v = %d; want ErrTypes", s, e)
	}
	for _, i := range append(noIndices(len(s.Defs)), 0, 1) {
		refusedAt(t, s, i, api.ErrTypes)
	}
	want := reduction{e: api.ErrTypes}
	if got := unique(s); !equalReductions(got, want) {
		t.Fatalf("Unique of %v = %v; want ErrTypes", s, got)
	}
	for _, u := range []api.Types{s, {}, sample(), types(integer("thread_t", 1)), some("a", 200)} {
		if a, b := merge(s, u), merge(u, s); !equalReductions(a, want) || !equalReductions(b, want) {
			t.Fatalf("Merge with %v = %v, %v; want ErrTypes", s, a, b)
		}
	}
	for _, list := range [][]string{nil, {"char"}, {"nothing"}, make([]string, 201)} {
		if got := trim(s, list...); !equalReductions(got, want) {
			t.Fatalf("Trim of %v = %v; want ErrTypes", s, got)
		}
	}
	for _, name := range []string{"", "char", "nothing"} {
		if i, e := ctf.Lookup(s, name); i != 0 || e != api.ErrTypes {
			t.Fatalf("Lookup in %v = %d, %d; want ErrTypes", s, i, e)
		}
	}
	if b, e := ctf.Encode(s); len(b) != 0 || e != api.ErrTypes {
		t.Fatalf("Encode of %v = %v, %d; want ErrTypes", s, b, e)
	}
	if r, e := ctf.Decode(wantBytes(s)); !equal(r, api.Types{}) || e != api.ErrTypes {
		t.Fatalf("Decode of the bytes of %v = %v, %d; want ErrTypes", s, r, e)
	}
}

// refusedAt checks that each function returns an error of a type.
func refusedAt(t *testing.T, s api.Types, i int, want api.Errno) {
	t.Helper()
	if n, e := ctf.Size(s, i); n != 0 || e != want {
		t.Fatalf("Size of %d in %v = %d, %d; want %d", i, s, n, e, want)
	}
	if text, e := ctf.Text(s, i); text != "" || e != want {
		t.Fatalf("Text of %d in %v = %q, %d; want %d", i, s, text, e, want)
	}
	if k, e := ctf.Resolve(s, i); k != 0 || e != want {
		t.Fatalf("Resolve of %d in %v = %d, %d; want %d", i, s, k, e, want)
	}
	for _, name := range []string{"", "t_tid", "nothing"} {
		if got := member(s, i, name); got != (found{e: want}) {
			t.Fatalf("Member of %d in %v = %v; want %d", i, s, got, want)
		}
	}
	for _, list := range [][]string{nil, {"t_tid"}, {"nothing"}, make([]string, 17)} {
		if got := path(s, i, list...); got != (place{e: want}) {
			t.Fatalf("Path of %d in %v = %v; want %d", i, s, got, want)
		}
	}
	for _, k := range []int{0, 1, i} {
		for _, u := range []api.Types{s, sample()} {
			if ctf.Equal(s, i, u, k) || ctf.Equal(u, k, s, i) {
				t.Fatalf("Equal of %d in %v and %d in %v", i, s, k, u)
			}
		}
	}
}

func TestP8_1IllFormed(t *testing.T) {
	t.Parallel()
	list := illFormed()
	source := random()
	for len(list) < 1500 {
		if s := changed(source, randomTypes(source)); !wantWellFormed(s) {
			list = append(list, s)
		}
	}
	for i, s := range list {
		if wantWellFormed(s) {
			t.Fatalf("%d: %v is well-formed", i, s)
		}
		refusedAll(t, s)
	}
}

func TestP8_1NoIndex(t *testing.T) {
	t.Parallel()
	source := random()
	list := []api.Types{{}, sample(), nested(), broad()}
	for range 300 {
		list = append(list, randomTypes(source))
	}
	for _, s := range list {
		for _, i := range noIndices(len(s.Defs)) {
			if len(s.Defs) > 0 || i != 0 {
				refusedAt(t, s, i, api.ErrNone)
			}
		}
	}
	refusedAt(t, api.Types{}, 0, api.ErrNone)
}

// TestP1Zero checks that functions that name no member and no type return zero values beside the error.
func TestP1Zero(t *testing.T) {
	s := nested()
	for i := range s.Defs {
		if got := member(s, i, "nothing"); got.f != (api.Field{}) || got.e == api.OK {
			t.Errorf("Member of %d = %v", i, got)
		}
		if got := path(s, i, "o_in", "nothing"); got.i != 0 || got.at != 0 || got.e == api.OK {
			t.Errorf("Path of %d = %v", i, got)
		}
	}
	if i, e := ctf.Lookup(s, "nothing"); i != 0 || e != api.ErrNone {
		t.Errorf("Lookup = %d, %d", i, e)
	}
	for _, b := range [][]byte{nil, {67}, wantBytes(s)[:50], append(wantBytes(s), 0), wantBytes(types(integer("i", 3)))} {
		if r, e := ctf.Decode(b); len(r.Defs) > 0 || e == api.OK {
			t.Errorf("Decode of %v = %v, %d", b, r, e)
		}
	}
}

// region is the memory of a slice, with the room behind its end.
type region struct{ from, to uintptr }

// regions returns the memory of all slices in a value.
func regions(v reflect.Value) []region {
	var l []region
	switch v.Kind() {
	case reflect.Struct:
		for i := range v.NumField() {
			l = append(l, regions(v.Field(i))...)
		}
	case reflect.Slice:
		if size := v.Type().Elem().Size() * uintptr(v.Cap()); size > 0 {
			l = append(l, region{v.Pointer(), v.Pointer() + size})
		}
		for i := range v.Len() {
			l = append(l, regions(v.Index(i))...)
		}
	}
	return l
}

// apart fails if two slices in these values share memory.
func apart(t *testing.T, what string, values ...any) {
	t.Helper()
	var l []region
	for _, v := range values {
		l = append(l, regions(reflect.ValueOf(v))...)
	}
	slices.SortFunc(l, func(a, b region) int { return int(a.from) - int(b.from) })
	for i := range l {
		if i > 0 && l[i].from < l[i-1].to {
			t.Fatalf("%s: slices share memory", what)
		}
	}
}

// TestP1Memory checks that no function changes an argument, and that no slice of a result shares memory with an argument or with another one.
func TestP1Memory(t *testing.T) {
	t.Parallel()
	source, merged := random(), 0
	for range 1000 {
		w := randomTypes(source)
		s, u := part(source, w), part(source, w)
		before, given := copied(s), copied(u)
		list := []string{names[source.Intn(len(names))]}
		if len(s.Defs) > 0 {
			list = append(list[:0], wantTexts(s)[0])
		}
		wanted := slices.Clone(list)
		apart(t, "Unique", s, unique(s))
		apart(t, "Trim", s, list, trim(s, list...))
		both := merge(s, u)
		apart(t, "Merge", s, u, both)
		if both.e == api.OK && len(both.to) > 0 && len(both.u) > 0 {
			merged++
		}
		b := wantBytes(s)
		r, _ := ctf.Decode(b)
		apart(t, "Decode", b, r)
		c, _ := ctf.Encode(s)
		apart(t, "Encode", s, c)
		for i := range s.Defs {
			ctf.Equal(s, i, u, 0)
			path(s, i, list...)
			compareTypes(t, s)
		}
		ctf.Same(s, u)
		if !equal(s, before) || !equal(u, given) || !slices.Equal(list, wanted) || !slices.Equal(b, wantBytes(s)) {
			t.Fatalf("an argument is changed from %v, %v to %v, %v", before, given, s, u)
		}
	}
	enough(t, "merged type data", merged, 300)
	s := sample()
	own := merge(s, s)
	apart(t, "Merge", s, own)
}

// TestP1Room checks that nothing is written behind the end of an argument's list.
func TestP1Room(t *testing.T) {
	s := sample()
	s.Defs = append(s.Defs, integer("behind", 1))[:5]
	s.Defs[1].Fields = append(s.Defs[1].Fields, field("behind", 3, 3))[:3]
	list := append([]string{"thread_t"}, "behind")[:1]
	unique(s)
	merge(s, types(integer("other", 1)))
	merge(types(integer("other", 1)), s)
	trim(s, list...)
	ctf.Encode(s)
	if got := s.Defs[:6][5]; got.Name != "behind" {
		t.Errorf("behind the definitions there is %v", got)
	}
	if got := s.Defs[1].Fields[:4][3]; got != field("behind", 3, 3) {
		t.Errorf("behind the fields there is %v", got)
	}
	if list[:2][1] != "behind" {
		t.Errorf("behind the names there is %q", list[:2][1])
	}
}

// TestP1NoState checks that a call does not depend on those before it, or on those at the same time.
func TestP1NoState(t *testing.T) {
	source := random()
	var list []api.Types
	for range 60 {
		s := part(source, randomTypes(source))
		list = append(list, s, changed(source, s))
	}
	results := func(i int) []reduction {
		s, u := list[i], list[i^1]
		b, e := ctf.Encode(s)
		n, _ := ctf.Size(s, 0)
		decoded, _ := ctf.Decode(wantBytes(u))
		return []reduction{unique(s), merge(s, u), merge(u, s), trim(s, "a"), {t: decoded, to: []int{len(b), n}, e: e}}
	}
	first, again := make([][]reduction, len(list)), make([][]reduction, len(list))
	for i := range list {
		first[i] = results(i)
	}
	var all sync.WaitGroup
	for i := range list {
		all.Go(func() { again[i] = results(i) })
	}
	all.Wait()
	for i := range list {
		if !slices.EqualFunc(first[i], again[i], equalReductions) {
			t.Fatalf("the calls with %v return %v, later %v", list[i], first[i], again[i])
		}
	}
}
