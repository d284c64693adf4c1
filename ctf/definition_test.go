package ctf_test

import (
	"math"
	"slices"
	"strings"
	"testing"

	"tapline/api"
	"tapline/ctf"
)

// P8.1: all functions behave as the chapter describes them.

func TestP8_1Examples(t *testing.T) {
	s := sample()
	if e := ctf.Check(s); e != api.OK {
		t.Errorf("Check = %d", e)
	}
	for i, want := range []int{4, 24, 8, 8, 1} {
		if n, e := ctf.Size(s, i); n != want || e != api.OK {
			t.Errorf("Size of %d = %d, %d; want %d", i, n, e, want)
		}
	}
	for i, want := range []string{"int32", "thread_t", "thread_t *", "char [8]", "char"} {
		if text, e := ctf.Text(s, i); text != want || e != api.OK {
			t.Errorf("Text of %d = %q, %d; want %q", i, text, e, want)
		}
	}
	if got := member(s, 1, "t_next"); got != (found{f: field("t_next", 2, 8)}) {
		t.Errorf("Member = %v", got)
	}
	if got := path(s, 1, "t_name"); got != (place{i: 3, at: 16}) {
		t.Errorf("Path = %v", got)
	}
	if got := member(s, 2, "t_tid"); got != (found{e: api.ErrForm}) {
		t.Errorf("Member of a pointer = %v; want ErrForm", got)
	}
	if got := unique(types(append(s.Defs, pointer(1))...)); !equalReductions(got, reduction{t: s, to: []int{0, 1, 2, 3, 4, 2}}) {
		t.Errorf("Unique = %v", got)
	}
	other := types(integer("x", 1), structure("thread_t", 32, field("t_tid", 0, 0)))
	if got := merge(s, other); !equalReductions(got, reduction{e: api.ErrMerge}) {
		t.Errorf("Merge with another thread_t = %v; want ErrMerge", got)
	}
	if b, e := ctf.Encode(api.Types{}); !slices.Equal(b, []byte{67, 84, 70, 1, 0}) || e != api.OK {
		t.Errorf("Encode of no definitions = %v, %d", b, e)
	}
}

// compareCheck checks what Check tells of type data, and returns whether it is well-formed.
func compareCheck(t *testing.T, s api.Types) bool {
	t.Helper()
	want := api.ErrTypes
	if wantWellFormed(s) {
		want = api.OK
	}
	if got := ctf.Check(s); got != want {
		t.Fatalf("Check of %v = %d; want %d", s, got, want)
	}
	return want == api.OK
}

// TestP8_1Small checks all small type data, with all that is told of each type.
func TestP8_1Small(t *testing.T) {
	t.Parallel()
	valid := map[bool]int{}
	for n := range 4 {
		small(n, func(s api.Types) {
			is := compareCheck(t, s)
			valid[is]++
			if is {
				compareTypes(t, s)
			}
		})
	}
	enough(t, "well-formed type data", valid[true], 800)
	enough(t, "other type data", valid[false], 2000)
}

func TestP8_1Check(t *testing.T) {
	t.Parallel()
	source, valid := random(), map[bool]int{}
	for range 20000 {
		s := randomTypes(source)
		if !compareCheck(t, s) {
			t.Fatalf("%v is not well-formed", s)
		}
		for range 1 + source.Intn(3) {
			s = changed(source, s)
			valid[compareCheck(t, s)]++
		}
	}
	enough(t, "well-formed type data", valid[true], 4000)
	enough(t, "other type data", valid[false], 4000)
}

// checks fails unless Check tells of type data what is wanted; so must the oracle.
func checks(t *testing.T, what string, s api.Types, want bool) {
	t.Helper()
	if got := compareCheck(t, s); got != want {
		t.Errorf("%s: well-formed is %t; want %t", what, got, want)
	}
}

func TestP8_1CheckNames(t *testing.T) {
	for c := range 256 {
		isLetter := strings.ContainsRune("abcdefghijklmnopqrstuvwxyzABCDEFGHIJKLMNOPQRSTUVWXYZ_", rune(c))
		isDigit := '0' <= c && c <= '9'
		one := string([]byte{byte(c)})
		for _, name := range []string{one, one + "a", one + one} {
			checks(t, name, types(integer(name, 1)), isLetter)
			checks(t, name, types(structure("s", 8, field(name, 1, 0)), integer("i", 1)), isLetter)
		}
		for _, name := range []string{"a" + one, "_" + one + "a", longest("a")[1:] + one} {
			checks(t, name, types(integer(name, 1)), isLetter || isDigit)
			checks(t, name, types(enumeration("e", field(name, 0, 0))), isLetter || isDigit)
		}
	}
	for _, name := range []string{"", longest("a") + "a", strings.Repeat("a", 100000), "é", "aé", "a\xff", "a ", " a", "a\n", "thread_t *", "a [3]"} {
		for _, d := range []api.Def{integer(name, 1), structure(name, 8, field("m", 0, 0)), enumeration(name, field("A", 0, 0)), alias(name, 0), structure("s", 8, field(name, 0, 0)), enumeration("s", field(name, 0, 0))} {
			checks(t, name, types(integer("i", 1), d), false)
		}
	}
	for _, d := range []api.Def{integer(longest("a"), 1), structure(longest("a"), 8, field("m", 0, 0)), enumeration(longest("a"), field("A", 0, 0)), alias(longest("a"), 0), structure("s", 8, field(longest("s"), 0, 0)), enumeration("e", field(longest("e"), 0, 0))} {
		checks(t, "a name of 31 bytes", types(integer("i", 1), d), true)
	}
}

// TestP8_1CheckNamesTwice checks names that are there twice, among definitions and within one.
func TestP8_1CheckNamesTwice(t *testing.T) {
	all := []api.Def{integer("i", 1), structure("i", 8, field("m", 0, 0)), enumeration("i", field("A", 0, 0)), alias("i", 1), integer("i", 1)}
	for _, d := range all {
		checks(t, "a name twice", types(d, integer("j", 1), all[0]), false)
		checks(t, "a name twice", types(all[0], integer("j", 1), d), false)
		d.Name = "k"
		checks(t, "other names", types(all[0], integer("j", 1), d), true)
	}
	checks(t, "members with the names of definitions", types(integer("i", 1), structure("s", 8, field("i", 0, 0), field("s", 0, 1)), enumeration("e", field("i", 0, 0), field("e", 0, 1))), true)
	for _, name := range []string{"i", "j", "k"} {
		checks(t, "a member", types(integer("i", 1), structure("s", 8, field("i", 0, 0), field("j", 0, 1), field(name, 0, 2))), name == "k")
		checks(t, "a name of an enumeration", types(enumeration("s", field("i", 0, 0), field("j", 0, 1), field(name, 0, 2))), name == "k")
	}
	checks(t, "pointers and arrays have no names", types(integer("i", 1), pointer(0), pointer(0), array(0, 2), array(0, 2)), true)
}

// TestP8_1CheckFields checks each kind with each field that it does not have.
func TestP8_1CheckFields(t *testing.T) {
	all := []api.Def{integer("d", 4), pointer(0), array(0, 4), structure("d", 8, field("m", 0, 0)), enumeration("d", field("A", 0, 0)), alias("d", 0)}
	for _, plain := range all {
		checks(t, "a definition", types(integer("i", 1), plain), true)
		for _, change := range []func(d *api.Def){
			func(d *api.Def) { d.Name = "d" },
			func(d *api.Def) { d.Name = "" },
			func(d *api.Def) { d.Int = api.Int{Size: 4} },
			func(d *api.Def) { d.Int.Size = 3 },
			func(d *api.Def) { d.Int.Signed = true },
			func(d *api.Def) { d.Int = api.Int{} },
			func(d *api.Def) { d.Ref = 1 },
			func(d *api.Def) { d.Ref = 2 },
			func(d *api.Def) { d.Ref = -1 },
			func(d *api.Def) { d.N = 1 },
			func(d *api.Def) { d.N = 0 },
			func(d *api.Def) { d.N = -1 },
			func(d *api.Def) { d.Fields = []api.Field{{}} },
			func(d *api.Def) { d.Fields = []api.Field{field("m", 0, 0)} },
			func(d *api.Def) { d.Fields = []api.Field{} },
			func(d *api.Def) { d.Fields = make([]api.Field, 100000) },
		} {
			d := plain
			change(&d)
			compareCheck(t, types(integer("i", 1), d))
			compareCheck(t, types(integer("i", 1), d, pointer(0)))
		}
		for _, kind := range append(strangeIntegers(), 0, 7, 8, -1) {
			d := plain
			d.Kind = kind
			compareCheck(t, types(integer("i", 1), d))
		}
	}
	checks(t, "a definition of no kind", types(api.Def{}), false)
}

// TestP8_1CheckNumbers checks the ranges of numbers.
func TestP8_1CheckNumbers(t *testing.T) {
	list := append(strangeIntegers(), 0, 3, 5, 12, 199, 200, 201, mostSize-1, mostSize+1)
	for _, n := range list {
		s := sample()
		for _, d := range []api.Def{integer("i", n), pointer(n), array(4, n), array(n, 1), array(n, 512), alias("i", n), structure("s", n, field("m", 4, 0)), structure("s", 512, field("m", n, 0)), structure("s", 512, field("m", 4, n)), structure("s", 512, field("m", 1, n)), structure("s", n, field("m", 4, n-1)), enumeration("e", field("m", 0, n)), enumeration("e", field("m", n, 0))} {
			compareCheck(t, types(append(s.Defs, d)...))
		}
		compareCheck(t, types(integer("i", 1), structure("s", 512, field("m", 0, n), field("n", 0, n), field("o", 0, n+1))))
		compareCheck(t, types(integer("i", 8), structure("s", 512, field("m", 0, 0), field("n", 0, n), field("o", 0, n+8))))
	}
	for _, value := range []int{math.MaxInt32, math.MinInt32, math.MaxInt32 + 1, math.MinInt32 - 1, 1 << 32, math.MaxInt, math.MinInt} {
		checks(t, "a value", types(enumeration("e", field("m", 0, value))), math.MinInt32 <= value && value <= math.MaxInt32)
	}
	for n := range 520 {
		checks(t, "a length", types(integer("i", 1), array(0, n)), 1 <= n && n <= 512)
		checks(t, "a size", types(integer("i", 1), structure("s", n, field("m", 0, 0))), 1 <= n && n <= 512)
	}
}

func TestP8_1CheckCounts(t *testing.T) {
	var list []api.Field
	for n := range 40 {
		s := structure("s", 512, list...)
		e := enumeration("e", list...)
		checks(t, "a structure", types(integer("i", 1), s), 1 <= n && n <= 32)
		checks(t, "an enumeration", types(e), 1 <= n && n <= 32)
		list = append(list, field(numbered("m", n), 0, n))
	}
	for n := 195; n < 206; n++ {
		s := types(integer("i", 1))
		for len(s.Defs) < n {
			s.Defs = append(s.Defs, pointer(0))
		}
		checks(t, "pointers", s, n <= 200)
	}
	checks(t, "no definitions", api.Types{}, true)
	checks(t, "no definitions", types([]api.Def{}...), true)
	checks(t, "many definitions", api.Types{Defs: make([]api.Def, 1000000)}, false)
	checks(t, "all that there may be", broad(), true)
}

func TestP8_1CheckWays(t *testing.T) {
	i := integer("i", 1)
	for _, x := range []struct {
		what string
		t    api.Types
		want bool
	}{
		{"a structure in itself", types(i, structure("s", 512, field("m", 1, 0))), false},
		{"a structure in itself, behind another member", types(i, structure("s", 512, field("m", 0, 0), field("n", 1, 8))), false},
		{"an array of itself", types(i, array(1, 1)), false},
		{"an alias of itself", types(i, alias("a", 1)), false},
		{"a pointer to itself", types(i, pointer(1)), false},
		{"two pointers to each other", types(pointer(1), pointer(0)), false},
		{"two aliases of each other", types(alias("a", 1), alias("b", 0)), false},
		{"two arrays of each other", types(array(1, 1), array(0, 1)), false},
		{"two structures in each other", types(structure("s", 8, field("m", 1, 0)), structure("r", 8, field("m", 0, 0))), false},
		{"a structure, an array and an alias in each other", types(structure("s", 8, field("m", 1, 0)), array(2, 1), alias("a", 0)), false},
		{"an array and a pointer", types(array(1, 1), pointer(0)), false},
		{"an array, an alias and a pointer", types(array(1, 1), alias("a", 2), pointer(0)), true},
		{"a pointer to an alias of it", types(pointer(1), alias("a", 0)), true},
		{"a structure with a pointer to it", types(structure("s", 8, field("m", 1, 0)), pointer(0)), true},
		{"a structure with a pointer to an array of it", types(structure("s", 8, field("m", 1, 0)), pointer(2), array(0, 3)), true},
		{"a structure with an array of pointers to it", types(structure("s", 24, field("m", 1, 0)), array(2, 3), pointer(0)), true},
		{"a pointer to a pointer to itself", types(i, pointer(2), pointer(2)), false},
		{"a cycle that is entered last", types(i, pointer(0), pointer(4), alias("a", 2), pointer(4)), false},
		{"one type in two ways", types(structure("s", 2, field("m", 1, 0), field("n", 2, 1)), alias("a", 3), array(3, 1), i), true},
		{"a type behind one that was left", types(i, alias("a", 0), alias("b", 1), structure("s", 4, field("m", 2, 0), field("n", 1, 1), field("o", 0, 2), field("p", 2, 3))), true},
	} {
		checks(t, x.what, x.t, x.want)
	}
}

// TestP8_1CheckSizes checks types at the greatest size, also where sizes are too large for an int64.
func TestP8_1CheckSizes(t *testing.T) {
	for n := range 514 {
		checks(t, "an array of an array", types(integer("i", 2), array(0, 32), array(1, n)), 1 <= n && n <= 8)
		checks(t, "an array of a structure", types(integer("i", 2), structure("s", 5, field("m", 0, 0)), array(1, n)), 1 <= n && n <= 102)
		checks(t, "an array of pointers", types(integer("i", 2), pointer(0), array(1, n)), 1 <= n && n <= 64)
		checks(t, "an array of enumerations", types(enumeration("i", field("m", 0, 0)), array(0, n)), 1 <= n && n <= 128)
	}
	checks(t, "arrays of arrays", chain(func(i int) api.Def { return array(i+1, 1) }), true)
	for _, k := range []int{2, 3, 5, 16, 256, 511, 512} {
		checks(t, "arrays of arrays that are too large", chain(func(i int) api.Def { return array(i+1, k) }), false)
		checks(t, "arrays that are too large, in structures", types(integer("i", 8), array(0, k), array(1, 512), array(2, 512), array(3, 512), array(4, 512), array(5, 512), array(6, 512), structure("s", 512, field("m", 7, 0))), false)
	}
	checks(t, "pointers to pointers", chain(func(i int) api.Def { return pointer(i + 1) }), true)
	checks(t, "aliases of aliases", chain(func(i int) api.Def { return alias(numbered("a", i), i+1) }), true)
	checks(t, "structures in structures", chain(func(i int) api.Def { return structure(numbered("a", i), 512-i, field("m", i+1, 0)) }), true)
	checks(t, "structures in structures that are too small", chain(func(i int) api.Def { return structure(numbered("a", i), 200+i, field("m", i+1, 0)) }), false)
}

// TestP8_1CheckMembers checks two members of 4 bytes at all places of a structure.
func TestP8_1CheckMembers(t *testing.T) {
	for n := 1; n < 20; n++ {
		for at := -5; at < 22; at++ {
			for next := -5; next < 22; next++ {
				s := types(structure("s", n, field("m", 1, at), field("n", 1, next)), integer("i", 4))
				checks(t, "two members", s, at >= 0 && next >= at+4 && next+4 <= n)
			}
			checks(t, "a member", types(structure("s", n, field("m", 1, at)), integer("i", 4)), at >= 0 && at+4 <= n)
		}
	}
}

// compareTypes checks all that is told of the types of well-formed type data.
func compareTypes(t *testing.T, s api.Types) {
	t.Helper()
	for i := range s.Defs {
		if n, e := ctf.Size(s, i); n != wantSize(s, i) || e != api.OK {
			t.Fatalf("Size of %d in %v = %d, %d; want %d", i, s, n, e, wantSize(s, i))
		}
		if text, e := ctf.Text(s, i); text != wantText(s, i) || e != api.OK {
			t.Fatalf("Text of %d in %v = %q, %d; want %q", i, s, text, e, wantText(s, i))
		}
		if k, e := ctf.Resolve(s, i); k != wantResolved(s, i) || e != api.OK {
			t.Fatalf("Resolve of %d in %v = %d, %d; want %d", i, s, k, e, wantResolved(s, i))
		}
		for _, name := range append([]string{"", "nothing", "m ", "é", strings.Repeat("m", 1000)}, members...) {
			if got, want := member(s, i, name), wantMember(s, i, name); got != want {
				t.Fatalf("Member %q of %d in %v = %v; want %v", name, i, s, got, want)
			}
		}
		compareLookup(t, s, wantText(s, i))
	}
	for _, name := range append([]string{"", "nothing", "a ", "é", strings.Repeat("a", 1000)}, names...) {
		compareLookup(t, s, name)
	}
}

func compareLookup(t *testing.T, s api.Types, name string) {
	t.Helper()
	want, wantE := wantLookup(s, name), api.OK
	if want < 0 {
		want, wantE = 0, api.ErrNone
	}
	if i, e := ctf.Lookup(s, name); i != want || e != wantE {
		t.Fatalf("Lookup of %q in %v = %d, %d; want %d, %d", name, s, i, e, want, wantE)
	}
}

func TestP8_1Types(t *testing.T) {
	t.Parallel()
	source := random()
	for range 4000 {
		compareTypes(t, randomTypes(source))
	}
	for _, s := range []api.Types{sample(), nested(), broad(), chain(func(i int) api.Def { return pointer(i + 1) }), chain(func(i int) api.Def { return array(i+1, 1+i/198*511) }), chain(func(i int) api.Def { return alias(numbered("a", i), i+1) })} {
		compareTypes(t, s)
	}
}

// everyPath calls try with all lists of at most n names.
func everyPath(list []string, n int, try func(path []string)) {
	var path []string
	var choose func()
	choose = func() {
		try(slices.Clone(path))
		if len(path) == n {
			return
		}
		for _, name := range list {
			path = append(path, name)
			choose()
			path = path[:len(path)-1]
		}
	}
	choose()
}

// comparePaths checks all paths of at most n of these names, from each type, and returns how many reach a type by two names or more.
func comparePaths(t *testing.T, s api.Types, list []string, n int) int {
	t.Helper()
	deep := 0
	for i := range s.Defs {
		everyPath(list, n, func(names []string) {
			got, want := path(s, i, names...), wantPlace(s, i, names)
			if got != want {
				t.Fatalf("Path of %q from %d in %v = %v; want %v", names, i, s, got, want)
			}
			if want.e == api.OK && len(names) > 1 {
				deep++
			}
		})
	}
	return deep
}

func TestP8_1Path(t *testing.T) {
	t.Parallel()
	deep := comparePaths(t, nested(), []string{"o_id", "o_in", "o_self", "o_kind", "p_a", "p_b", "p_up", "x", "y", "K_A", ""}, 3)
	enough(t, "members of members", deep, 10)
	source := random()
	deep = 0
	for range 300 {
		deep += comparePaths(t, randomTypes(source), members, 2)
	}
	enough(t, "members of members", deep, 300)
	for _, x := range []struct {
		path []string
		want place
	}{
		{nil, place{i: 1}},
		{[]string{"o_in"}, place{i: 0, at: 8}},
		{[]string{"o_in", "p_b"}, place{i: 8, at: 16}},
		{[]string{"o_in", "p_b", "y"}, place{i: 10, at: 24}},
		{[]string{"o_in", "p_b", "z"}, place{e: api.ErrNone}},
		{[]string{"o_in", "z", "y"}, place{e: api.ErrNone}},
		{[]string{"o_in", "p_b", "y", "y"}, place{e: api.ErrForm}},
		{[]string{"o_self", "o_id"}, place{e: api.ErrForm}},
		{[]string{"o_list", "o_id"}, place{e: api.ErrForm}},
		{[]string{"o_kind", "K_A"}, place{e: api.ErrForm}},
	} {
		if got := path(nested(), 1, x.path...); got != x.want {
			t.Errorf("Path of %q = %v; want %v", x.path, got, x.want)
		}
	}
}

// TestP8_1PathLong checks paths with as many names as there may be, and more.
func TestP8_1PathLong(t *testing.T) {
	s := chain(func(i int) api.Def { return structure(numbered("a", i), 512-i, field("m", i+1, 1)) })
	for n := range 30 {
		want := place{i: 5 + n, at: n}
		if n > 16 {
			want = place{e: api.ErrLong}
		}
		if got := path(s, 5, slices.Repeat([]string{"m"}, n)...); got != want {
			t.Errorf("Path of %d names = %v; want %v", n, got, want)
		}
	}
	if got := path(s, 5, make([]string, 17)...); got != (place{e: api.ErrLong}) {
		t.Errorf("Path of 17 names that no member has = %v; want ErrLong", got)
	}
	if got := path(s, 5, make([]string, 16)...); got != (place{e: api.ErrNone}) {
		t.Errorf("Path of 16 names that no member has = %v; want ErrNone", got)
	}
}

// compareEqual checks Equal of each two types, and returns how many are equivalent.
func compareEqual(t *testing.T, s, u api.Types) int {
	t.Helper()
	count := 0
	for i := range s.Defs {
		for j := range u.Defs {
			want := wantEqual(s, i, u, j)
			if got := ctf.Equal(s, i, u, j); got != want {
				t.Fatalf("Equal of %d in %v and %d in %v = %t; want %t", i, s, j, u, got, want)
			}
			if want {
				count++
			}
		}
	}
	return count
}

func TestP8_1Equal(t *testing.T) {
	t.Parallel()
	source, equivalent, others := random(), 0, 0
	for range 2500 {
		s := randomTypes(source)
		u := relative(source, s)
		n := compareEqual(t, s, u)
		equivalent += n
		for i := range s.Defs {
			for j := range u.Defs {
				if wantText(s, i) == wantText(u, j) {
					others++
				}
			}
		}
		others -= n
	}
	enough(t, "equivalent types", equivalent, 4000)
	enough(t, "types with one text that are not equivalent", others, 1000)
	enough(t, "equivalent types with themselves", compareEqual(t, nested(), nested()), len(nested().Defs))
}

// TestP8_1EqualSmall checks each two of all small type data.
func TestP8_1EqualSmall(t *testing.T) {
	t.Parallel()
	var list []api.Types
	small(2, func(s api.Types) {
		if wantWellFormed(s) {
			list = append(list, s)
		}
	})
	equivalent := 0
	for _, s := range list {
		for _, u := range list {
			equivalent += compareEqual(t, s, u)
		}
	}
	enough(t, "equivalent types", equivalent, 4*len(list))
}

// TestP8_1EqualDifference checks type data that differs from other type data in one place that can be reached, or cannot.
func TestP8_1EqualDifference(t *testing.T) {
	for _, change := range []func(s *api.Types){
		func(s *api.Types) { s.Defs[1].N++ },
		func(s *api.Types) { s.Defs[3].N++ },
		func(s *api.Types) { s.Defs[3].Fields[0].At = 0 },
		func(s *api.Types) { s.Defs[3].Fields[0].Name = "p_c" },
		func(s *api.Types) { s.Defs[3].Fields[2].Type = 5 },
		func(s *api.Types) { s.Defs[4].Int.Signed = false },
		func(s *api.Types) { s.Defs[4].Name = "i8" },
		func(s *api.Types) { s.Defs[4] = alias("u8", 14) },
		func(s *api.Types) {
			s.Defs[4] = enumeration("u8", field("A", 0, 0))
			s.Defs[3].Fields[0].At = 4
			s.Defs[6].N = 7
		},
		func(s *api.Types) { s.Defs[6].N = 27 },
		func(s *api.Types) { s.Defs[7].Fields[1].At-- },
		func(s *api.Types) { s.Defs[7].Fields[3].Name = "K_E" },
		func(s *api.Types) { s.Defs[7].Fields = s.Defs[7].Fields[:3] },
		func(s *api.Types) { s.Defs[8].Fields = s.Defs[8].Fields[:1] },
		func(s *api.Types) { s.Defs[2].Ref = 3 },
		func(s *api.Types) { s.Defs[0].Ref = 8 },
		func(s *api.Types) { s.Defs[9].Ref = 2 },
		func(s *api.Types) { s.Defs[11].Ref = 9 },
		func(s *api.Types) { s.Defs[12].N = 3 },
		func(s *api.Types) { s.Defs[13].Ref = 11 },
	} {
		s := nested()
		s.Defs = append(s.Defs, integer("one", 1))
		u := copied(s)
		change(&u)
		if !compareCheck(t, u) {
			t.Fatalf("%v is not well-formed", u)
		}
		n := compareEqual(t, s, u)
		if again := compareEqual(t, u, s); n == len(s.Defs) || n < 1 || n != again {
			t.Errorf("%d types are equivalent, %d in the other order", n, again)
		}
	}
}
