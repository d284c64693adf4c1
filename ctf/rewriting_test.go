package ctf_test

import (
	"slices"
	"strings"
	"testing"

	"tapline/api"
	"tapline/ctf"
)

// P8.1 for the functions that return other type data.

func compareUnique(t *testing.T, s api.Types) reduction {
	t.Helper()
	got := unique(s)
	if want := wantUnique(s, wantTexts(s)); !equalReductions(got, want) {
		t.Fatalf("Unique of %v = %v; want %v", s, got, want)
	}
	return got
}

func compareTrim(t *testing.T, s api.Types, names ...string) reduction {
	t.Helper()
	got := trim(s, names...)
	if want := wantTrimmed(s, names); !equalReductions(got, want) {
		t.Fatalf("Trim of %v by %q = %v; want %v", s, names, got, want)
	}
	return got
}

func compareMerge(t *testing.T, s, u api.Types) reduction {
	t.Helper()
	got := merge(s, u)
	if want := wantMerged(s, u); !equalReductions(got, want) {
		t.Fatalf("Merge of %v and %v = %v; want %v", s, u, got, want)
	}
	return got
}

// TestP8_1RewriteSmall checks all small type data.
func TestP8_1RewriteSmall(t *testing.T) {
	t.Parallel()
	for n := range 4 {
		small(n, func(s api.Types) {
			if wantWellFormed(s) {
				compareUnique(t, s)
				everyPath(names[:3], 2, func(list []string) { compareTrim(t, s, list...) })
			}
		})
	}
}

func TestP8_1MergeSmall(t *testing.T) {
	t.Parallel()
	var list []api.Types
	for n := range 3 {
		small(n, func(s api.Types) {
			if wantWellFormed(s) {
				list = append(list, s)
			}
		})
	}
	errors := map[api.Errno]int{}
	for _, s := range list {
		for _, u := range list {
			errors[compareMerge(t, s, u).e]++
		}
	}
	enough(t, "merged type data", errors[api.OK], 300)
	enough(t, "type data that is not merged", errors[api.ErrMerge], 500)
}

func TestP8_1Unique(t *testing.T) {
	t.Parallel()
	source, smaller := random(), 0
	for range 4000 {
		s := part(source, randomTypes(source))
		if got := compareUnique(t, s); len(got.t.Defs) < len(s.Defs) {
			smaller++
		}
	}
	enough(t, "type data with texts that are there twice", smaller, 600)
	compareUnique(t, nested())
	compareUnique(t, broad())
	s := chain(func(i int) api.Def { return pointer(max(i+1, 100)) })
	enough(t, "definitions with a text that is there before", len(s.Defs)-len(compareUnique(t, s).t.Defs), 99)
}

// TestP8_1UniqueOrder checks definitions whose texts are the same, though what they refer to has other indices, in several orders.
func TestP8_1UniqueOrder(t *testing.T) {
	s := types(pointer(2), pointer(4), pointer(6), array(1, 3), pointer(6), array(0, 3), structure("s", 16, field("m", 1, 0), field("n", 0, 8)), pointer(0), pointer(1))
	want := reduction{
		t:  types(pointer(1), pointer(3), array(0, 3), structure("s", 16, field("m", 0, 0), field("n", 0, 8)), pointer(0)),
		to: []int{0, 0, 1, 2, 1, 2, 3, 4, 4},
	}
	if got := compareUnique(t, s); !equalReductions(got, want) {
		t.Errorf("Unique = %v; want %v", got, want)
	}
	e := types(integer("i", 1), pointer(0), pointer(0), enumeration("e", field("A", 0, 3)), alias("a", 2), array(2, 1))
	want = reduction{
		t:  types(integer("i", 1), pointer(0), enumeration("e", field("A", 0, 3)), alias("a", 1), array(1, 1)),
		to: []int{0, 1, 1, 2, 3, 4},
	}
	if got := compareUnique(t, e); !equalReductions(got, want) {
		t.Errorf("Unique = %v; want %v", got, want)
	}
	// Where all indices change, those that are none stay 0.
	f := types(pointer(2), pointer(2), integer("i", 1), structure("s", 1, field("m", 2, 0)), enumeration("e", field("A", 0, 1)))
	u := types(integer("j", 1))
	merged := compareMerge(t, u, f)
	if d := merged.t.Defs; merged.e != api.OK || d[2].Ref != 0 || d[3].Ref != 0 || d[3].Fields[0].Type != 2 || d[4].Ref != 0 || d[4].Fields[0].Type != 0 {
		t.Errorf("Merge = %v", merged)
	}
}

func TestP8_1Merge(t *testing.T) {
	t.Parallel()
	source, errors, common := random(), map[api.Errno]int{}, 0
	for range 6000 {
		s := randomTypes(source)
		u := randomTypes(source)
		switch source.Intn(3) {
		case 0:
			u = part(source, s)
			s = part(source, s)
		case 1:
			u = relative(source, s)
		}
		got := compareMerge(t, s, u)
		errors[got.e]++
		if got.e == api.OK && len(s.Defs) > 0 && len(u.Defs) > 0 && len(got.t.Defs) < len(s.Defs)+len(u.Defs) {
			common++
		}
	}
	enough(t, "merged type data", errors[api.OK], 1500)
	enough(t, "merged type data with common types", common, 1000)
	enough(t, "type data that is not merged", errors[api.ErrMerge], 1500)
}

// TestP8_1MergeFar checks type data whose common definitions are the same but for something that is reached from them.
func TestP8_1MergeFar(t *testing.T) {
	link := func(i int) api.Def { return structure(numbered("a", i), 512-i, field("m", i+1, 0)) }
	s := chain(link)
	u := copied(s)
	u.Defs[mostDefs-1].Int.Signed = false
	if got := compareMerge(t, s, u); got.e != api.ErrMerge {
		t.Errorf("Merge with another definition at the end = %d; want ErrMerge", got.e)
	}
	// A pointer to a structure that has the same name and members as texts, of which one is another type.
	s = types(alias("a", 1), pointer(2), structure("s", 8, field("m", 3, 0)), integer("i", 4))
	u = types(integer("b", 4), alias("a", 2), pointer(3), structure("s", 8, field("m", 4, 0)), alias("i", 0))
	if got := compareMerge(t, s, u); got.e != api.ErrMerge {
		t.Errorf("Merge with an alias in the place of an integer = %d; want ErrMerge", got.e)
	}
	// The names of one are the names of members of the other: these are nothing in common.
	s = types(integer("i", 4), structure("s", 8, field("m", 0, 0)))
	u = types(integer("m", 4), enumeration("e", field("i", 0, 0), field("s", 0, 0)))
	if got := compareMerge(t, s, u); got.e != api.OK || len(got.t.Defs) != 4 {
		t.Errorf("Merge of other definitions = %v", got)
	}
}

// some returns n integers whose names begin with a name.
func some(name string, n int) api.Types {
	var t api.Types
	for i := range n {
		t.Defs = append(t.Defs, integer(numbered(name, i), 1))
	}
	return t
}

func TestP8_1MergeLong(t *testing.T) {
	t.Parallel()
	for _, x := range []struct {
		s, u api.Types
		n    int
		want api.Errno
	}{
		{some("a", 100), some("b", 100), 200, api.OK},
		{some("a", 100), some("b", 101), 0, api.ErrLong},
		{some("a", 101), some("b", 100), 0, api.ErrLong},
		{some("a", 200), some("a", 200), 200, api.OK},
		{some("a", 200), some("a", 150), 200, api.OK},
		{some("a", 150), some("a", 200), 200, api.OK},
		{some("a", 200), api.Types{}, 200, api.OK},
		{api.Types{}, some("a", 200), 200, api.OK},
		{some("a", 200), some("b", 1), 0, api.ErrLong},
		{some("b", 1), some("a", 200), 0, api.ErrLong},
		{api.Types{}, api.Types{}, 0, api.OK},
		// Definitions with one text count once.
		{types(append(some("a", 150).Defs, slices.Repeat([]api.Def{pointer(0)}, 50)...)...), some("b", 49), 200, api.OK},
		{types(append(some("a", 150).Defs, slices.Repeat([]api.Def{pointer(0)}, 50)...)...), some("b", 50), 0, api.ErrLong},
		{some("b", 49), types(append(some("a", 150).Defs, slices.Repeat([]api.Def{pointer(0)}, 50)...)...), 200, api.OK},
		// ErrMerge comes first.
		{some("a", 200), types(append(some("b", 199).Defs, integer("aaaa", 2))...), 0, api.ErrMerge},
		{types(append(some("b", 199).Defs, integer("aaaa", 2))...), some("a", 200), 0, api.ErrMerge},
	} {
		if got := compareMerge(t, x.s, x.u); got.e != x.want || len(got.t.Defs) != x.n {
			t.Errorf("Merge of %d and %d definitions = %d, %d definitions; want %d, %d", len(x.s.Defs), len(x.u.Defs), got.e, len(got.t.Defs), x.want, x.n)
		}
	}
}

func TestP8_1Trim(t *testing.T) {
	t.Parallel()
	source, errors, smaller := random(), map[api.Errno]int{}, 0
	for range 4000 {
		s := randomTypes(source)
		var list []string
		for range source.Intn(4) {
			name := names[source.Intn(len(names))]
			if i := source.Intn(len(s.Defs)); source.Intn(4) > 0 {
				name = wantText(s, i)
			}
			list = append(list, name)
		}
		got := compareTrim(t, s, list...)
		errors[got.e]++
		if n := len(got.t.Defs); 0 < n && n < len(s.Defs) {
			smaller++
		}
	}
	enough(t, "type data that is trimmed", errors[api.OK], 1500)
	enough(t, "type data that loses some definitions", smaller, 800)
	enough(t, "names that there are not", errors[api.ErrNone], 800)
}

func TestP8_1TrimExamples(t *testing.T) {
	for _, x := range []struct {
		names []string
		kept  int
		want  api.Errno
	}{
		{nil, 0, api.OK},
		{[]string{"int64"}, 1, api.OK},
		{[]string{"u8"}, 1, api.OK},
		{[]string{"kind"}, 1, api.OK},
		{[]string{"point"}, 2, api.OK},
		{[]string{"point", "int64"}, 2, api.OK},
		{[]string{"kind", "kind", "kind"}, 1, api.OK},
		{[]string{"again"}, 11, api.OK},
		{[]string{"inner"}, 11, api.OK},
		{[]string{"outer", "point"}, 11, api.OK},
		{[]string{""}, 0, api.ErrNone},
		{[]string{"u8", ""}, 0, api.ErrNone},
		{[]string{"u8 "}, 0, api.ErrNone},
		{[]string{"u8 [28]"}, 0, api.ErrNone},
		{[]string{"outer *"}, 0, api.ErrNone},
		{[]string{"p_a"}, 0, api.ErrNone},
		{[]string{"K_A"}, 0, api.ErrNone},
		{slices.Repeat([]string{"u8"}, 200), 1, api.OK},
		{slices.Repeat([]string{"u8"}, 201), 0, api.ErrLong},
		{slices.Repeat([]string{"x"}, 200), 0, api.ErrNone},
		{slices.Repeat([]string{"x"}, 201), 0, api.ErrLong},
		{slices.Repeat([]string{strings.Repeat("x", 1000)}, 10000), 0, api.ErrLong},
	} {
		got := compareTrim(t, nested(), x.names...)
		if got.e != x.want || len(got.t.Defs) != x.kept {
			t.Errorf("Trim by %d names, %q .. = %v; want %d definitions, %d", len(x.names), x.names[:min(3, len(x.names))], got, x.kept, x.want)
		}
	}
	// Trim keeps definitions with one text apart, and reaches nothing by what is no reference: the first definition.
	s := types(integer("i", 1), integer("j", 1), enumeration("e", field("A", 0, 0)), structure("s", 16, field("m", 4, 0), field("n", 5, 8)), pointer(1), pointer(1), pointer(6))
	s.Defs[6].Ref = 3
	want := reduction{t: types(integer("j", 1), structure("s", 16, field("m", 2, 0), field("n", 3, 8)), pointer(0), pointer(0)), to: []int{-1, 0, -1, 1, 2, 3, -1}}
	if got := compareTrim(t, s, "s"); !equalReductions(got, want) {
		t.Errorf("Trim = %v; want %v", got, want)
	}
	compareTrim(t, broad(), "saab")
	compareTrim(t, broad(), "u8")
}

// compareBytes checks Decode of bytes, and returns its error.
func compareBytes(t *testing.T, b []byte) api.Errno {
	t.Helper()
	want, exists := wantDecoded(b)
	e := api.OK
	switch {
	case !exists:
		e = api.ErrBytes
	case !wantWellFormed(want):
		e = api.ErrTypes
	}
	if e != api.OK {
		want = api.Types{}
	}
	if got, gotE := ctf.Decode(b); !equal(got, want) || gotE != e {
		t.Fatalf("Decode of %v = %v, %d; want %v, %d", b, got, gotE, want, e)
	}
	return e
}

func compareEncode(t *testing.T, s api.Types) []byte {
	t.Helper()
	b, e := ctf.Encode(s)
	if !slices.Equal(b, wantBytes(s)) || e != api.OK {
		t.Fatalf("Encode of %v = %v, %d; want %v", s, b, e, wantBytes(s))
	}
	return b
}

func TestP8_1Encode(t *testing.T) {
	t.Parallel()
	source := random()
	for range 4000 {
		s := randomTypes(source)
		if e := compareBytes(t, compareEncode(t, s)); e != api.OK {
			t.Fatalf("Decode of the bytes of %v: %d", s, e)
		}
	}
	for _, s := range []api.Types{{}, sample(), nested(), broad(), some("a", 200)} {
		compareBytes(t, compareEncode(t, s))
	}
	for _, value := range strangeIntegers() {
		if s := types(enumeration("e", field("A", 0, value))); wantWellFormed(s) {
			compareBytes(t, compareEncode(t, s))
		}
	}
	want := []byte{67, 84, 70, 1, 4, 10, 2, 'e', 0, 0, 0, 0, 10, 2, 'A', 0, 0, 2, 'B', 0, 1, 2, 'C', 0, 126, 2, 'D', 0, 127, 2, 'E', 0, 128, 1, 8, 6, 'u', 'i', 'd', 8, 0, 0, 0, 0}
	s := types(enumeration("e", field("A", 0, 0), field("B", 0, -1), field("C", 0, 63), field("D", 0, -64), field("E", 0, 64)), api.Def{Kind: api.DfInt, Name: "uid", Int: api.Int{Size: 4}})
	want[34] = 2
	if got := compareEncode(t, s); !slices.Equal(got, want) {
		t.Errorf("Encode = %v; want %v", got, want)
	}
}

// TestP8_1DecodeAny checks bytes of type data that mostly is not well-formed.
func TestP8_1DecodeAny(t *testing.T) {
	t.Parallel()
	source, errors := random(), map[api.Errno]int{}
	for range 8000 {
		s := changed(source, changed(source, randomTypes(source)))
		errors[compareBytes(t, wantBytes(s))]++
	}
	enough(t, "bytes of well-formed type data", errors[api.OK], 300)
	enough(t, "bytes of other type data", errors[api.ErrTypes], 3000)
	if errors[api.ErrBytes] > 0 {
		t.Errorf("bytes of type data are none")
	}
	for _, n := range append(strangeIntegers(), 0) {
		for _, s := range []api.Types{types(api.Def{Kind: n}), types(api.Def{Int: api.Int{Size: n}}), types(api.Def{Ref: n}), types(api.Def{N: n}), types(enumeration("e", field("A", n, 0))), types(enumeration("e", field("A", 0, n))), types(integer(strings.Repeat("a", min(max(n, 0), 1000)), 1))} {
			if e := compareBytes(t, wantBytes(s)); e == api.ErrBytes {
				t.Errorf("Decode of the bytes of %v: ErrBytes", s)
			}
		}
	}
	for _, s := range []api.Types{{Defs: make([]api.Def, 201)}, {Defs: make([]api.Def, 70000)}, types(api.Def{Fields: make([]api.Field, 70000)}), types(api.Def{Name: "\x00\xff *"})} {
		if e := compareBytes(t, wantBytes(s)); e != api.ErrTypes {
			t.Errorf("Decode of the bytes of %d definitions: %d; want ErrTypes", len(s.Defs), e)
		}
	}
}

// TestP8_1DecodeChanged checks bytes that differ from those of type data in one place.
func TestP8_1DecodeChanged(t *testing.T) {
	t.Parallel()
	errors := map[api.Errno]int{}
	for _, s := range []api.Types{{}, sample(), types(enumeration("e", field("A", 0, 1<<31-1), field("B", 0, -1<<31)), alias("a", 0))} {
		b := wantBytes(s)
		for i := range len(b) + 1 {
			errors[compareBytes(t, b[:i])]++
			for c := range 256 {
				more := slices.Insert(slices.Clone(b), i, byte(c))
				errors[compareBytes(t, more)]++
				if i < len(b) {
					other := slices.Clone(b)
					other[i] = byte(c)
					errors[compareBytes(t, other)]++
				}
			}
			if i < len(b) {
				errors[compareBytes(t, slices.Delete(slices.Clone(b), i, i+1))]++
			}
		}
	}
	enough(t, "bytes of type data", errors[api.OK], 800)
	enough(t, "bytes of other type data", errors[api.ErrTypes], 2000)
	enough(t, "bytes of none", errors[api.ErrBytes], 20000)
}

// TestP8_1DecodeIntegers checks the bytes of integers, also those with one that is not necessary or does not fit, in the place of a Kind.
func TestP8_1DecodeIntegers(t *testing.T) {
	for _, x := range []struct {
		b    []byte
		want api.Errno
	}{
		{[]byte{0}, api.ErrTypes}, {[]byte{127}, api.ErrTypes}, {[]byte{128, 1}, api.ErrTypes}, {[]byte{255, 127}, api.ErrTypes}, {[]byte{4}, api.OK},
		{[]byte{128, 0}, api.ErrBytes}, {[]byte{132, 0}, api.ErrBytes}, {[]byte{132, 128, 0}, api.ErrBytes}, {[]byte{255, 128, 0}, api.ErrBytes}, {[]byte{132, 128}, api.ErrBytes},
		{[]byte{255, 255, 255, 255, 255, 255, 255, 255, 255, 1}, api.ErrTypes}, {[]byte{254, 255, 255, 255, 255, 255, 255, 255, 255, 1}, api.ErrTypes},
		{[]byte{128, 128, 128, 128, 128, 128, 128, 128, 128, 1}, api.ErrTypes}, {[]byte{255, 255, 255, 255, 255, 255, 255, 255, 127}, api.ErrTypes},
		{[]byte{132, 128, 128, 128, 128, 128, 128, 128, 128, 0}, api.ErrBytes}, {[]byte{132, 128, 128, 128, 128, 128, 128, 128, 128, 2}, api.ErrBytes},
		{[]byte{132, 128, 128, 128, 128, 128, 128, 128, 128, 3}, api.ErrBytes}, {[]byte{132, 128, 128, 128, 128, 128, 128, 128, 128, 127}, api.ErrBytes},
		{[]byte{132, 128, 128, 128, 128, 128, 128, 128, 128, 128}, api.ErrBytes}, {[]byte{132, 128, 128, 128, 128, 128, 128, 128, 128, 129, 0}, api.ErrBytes},
		{[]byte{132, 128, 128, 128, 128, 128, 128, 128, 128, 128, 1}, api.ErrBytes}, {[]byte{132, 128, 128, 128, 128, 128, 128, 128, 128, 128, 128, 0}, api.ErrBytes},
		{slices.Repeat([]byte{128}, 100), api.ErrBytes}, {slices.Repeat([]byte{255}, 100), api.ErrBytes},
	} {
		// Behind the Kind of the pointer there are 6 bytes.
		plain := wantBytes(types(integer("i", 1), pointer(0)))
		b := slices.Concat(plain[:len(plain)-7], x.b, plain[len(plain)-6:])
		if e := compareBytes(t, b); e != x.want {
			t.Errorf("Decode of %v with the integer %v: %d; want %d", b, x.b, e, x.want)
		}
	}
	// Lengths that are negative, or greater than what there is.
	for _, n := range append(strangeIntegers(), -1, 2, 3) {
		list := wantBytes(types(enumeration("e", field("A", 0, n))))
		b := slices.Concat([]byte{67, 84, 70, 1}, list[len(wantBytes(types(enumeration("e", field("A", 0, 0)))))-1:])
		compareBytes(t, b)
		if e := compareBytes(t, append(b, 2, 2, 'a')); e == api.OK {
			t.Errorf("Decode of %d definitions: OK", n)
		}
		if e := compareBytes(t, slices.Concat([]byte{67, 84, 70, 1, 2, 2}, b[4:], []byte{'a', 2, 0, 0, 0, 0})); (e == api.OK) != (n == 1) {
			t.Errorf("Decode of a name of %d bytes: %d", n, e)
		}
	}
	for i := range 4 {
		for c := range 256 {
			b := []byte{67, 84, 70, 1, 0}
			b[i] = byte(c)
			if e := compareBytes(t, b); (e == api.OK) != slices.Equal(b, []byte{67, 84, 70, 1, 0}) {
				t.Errorf("Decode of %v: %d", b, e)
			}
		}
	}
}

// TestP8_1Same checks type data, well-formed or not, that differs in one place, or only in what is nil.
func TestP8_1Same(t *testing.T) {
	list := []api.Types{
		{}, types(api.Def{}), types(api.Def{}, api.Def{}), sample(), nested(), broad(),
		types(api.Def{Kind: 1}), types(api.Def{Name: "a"}), types(api.Def{Name: "b"}), types(api.Def{Int: api.Int{Size: 1}}), types(api.Def{Int: api.Int{Signed: true}}), types(api.Def{Ref: 1}), types(api.Def{N: 1}), types(api.Def{N: -1}),
		types(api.Def{Fields: []api.Field{{}}}), types(api.Def{Fields: []api.Field{{}, {}}}), types(api.Def{Fields: []api.Field{{Name: "a"}}}), types(api.Def{Fields: []api.Field{{Type: 1}}}), types(api.Def{Fields: []api.Field{{At: 1}}}),
		types(api.Def{Kind: 1}, api.Def{}), types(api.Def{}, api.Def{Kind: 1}), types(api.Def{}, api.Def{Fields: []api.Field{{}}}), {Defs: make([]api.Def, 100000)},
	}
	for i, a := range list {
		for j, b := range list {
			if got := ctf.Same(a, copied(b)); got != (i == j) {
				t.Errorf("Same of %d and %d = %t", i, j, got)
			}
		}
	}
	if empty := types([]api.Def{}...); !ctf.Same(empty, api.Types{}) || !ctf.Same(api.Types{Defs: nil}, empty) {
		t.Error("Same tells nil from empty")
	}
	if empty := types(api.Def{Fields: []api.Field{}}); !ctf.Same(empty, types(api.Def{})) || !ctf.Same(types(api.Def{}), empty) {
		t.Error("Same tells nil from empty")
	}
}

func TestP8_1SameRandom(t *testing.T) {
	source, same := random(), map[bool]int{}
	for range 5000 {
		s := randomTypes(source)
		u := changed(source, s)
		want := equal(s, u)
		if got := ctf.Same(s, u); got != want {
			t.Fatalf("Same of %v and %v = %t", s, u, got)
		}
		same[want]++
	}
	enough(t, "type data that is the same", same[true], 200)
	enough(t, "type data that differs", same[false], 2000)
}
