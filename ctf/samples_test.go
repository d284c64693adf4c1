package ctf_test

import (
	"math"
	"math/rand"
	"slices"
	"strings"
	"testing"

	"tapline/api"
	"tapline/ctf"
)

// What the tests try.

func random() *rand.Rand { return rand.New(rand.NewSource(8)) }

// enough fails if a test has tried less of something than it is meant to.
func enough(t *testing.T, what string, n, least int) {
	t.Helper()
	if n < least {
		t.Errorf("only %d %s; at least %d are to be tried", n, what, least)
	}
}

func types(defs ...api.Def) api.Types { return api.Types{Defs: defs} }

func integer(name string, size int) api.Def {
	return api.Def{Kind: api.DfInt, Name: name, Int: api.Int{Size: size, Signed: true}}
}

func pointer(ref int) api.Def { return api.Def{Kind: api.DfPtr, Ref: ref} }

func array(ref, n int) api.Def { return api.Def{Kind: api.DfArray, Ref: ref, N: n} }

func structure(name string, n int, fields ...api.Field) api.Def {
	return api.Def{Kind: api.DfStruct, Name: name, N: n, Fields: fields}
}

func enumeration(name string, fields ...api.Field) api.Def {
	return api.Def{Kind: api.DfEnum, Name: name, Fields: fields}
}

func alias(name string, ref int) api.Def { return api.Def{Kind: api.DfAlias, Name: name, Ref: ref} }

func field(name string, i, at int) api.Field { return api.Field{Name: name, Type: i, At: at} }

// sample returns the type data of the chapter's examples.
func sample() api.Types {
	return types(
		integer("int32", 4),
		structure("thread_t", 24, field("t_tid", 0, 0), field("t_next", 2, 8), field("t_name", 3, 16)),
		pointer(1),
		array(4, 8),
		integer("char", 1),
	)
}

// nested returns type data with structures in structures, aliases on the way to them, and pointers that lead back.
func nested() api.Types {
	return types(
		alias("inner", 3),
		structure("outer", 84, field("o_id", 4, 3), field("o_in", 0, 8), field("o_self", 5, 41), field("o_list", 6, 49), field("o_kind", 7, 77)),
		alias("again", 0),
		structure("pair", 32, field("p_a", 4, 1), field("p_b", 8, 8), field("p_up", 9, 24)),
		integer("u8", 1),
		pointer(2),
		array(4, 28),
		enumeration("kind", field("K_A", 0, -1), field("K_B", 0, math.MaxInt32), field("K_C", 0, -1), field("K_D", 0, math.MinInt32)),
		structure("point", 16, field("x", 10, 0), field("y", 10, 8)),
		pointer(1),
		integer("int64", 8),
		pointer(5),
		array(8, 2),
		pointer(12),
	)
}

// chain returns type data with as many definitions as there may be, each of which leads to the next one; the last one is an integer of one byte.
func chain(link func(i int) api.Def) api.Types {
	var t api.Types
	for i := range mostDefs - 1 {
		t.Defs = append(t.Defs, link(i))
	}
	return types(append(t.Defs, integer("end", 1))...)
}

func longest(letter string) string { return strings.Repeat(letter, 31) }

// numbered returns a name with a number.
func numbered(name string, n int) string {
	return name + string([]byte{'a' + byte(n/100), 'a' + byte(n/10%10), 'a' + byte(n%10)})
}

// broad returns type data with as many structures as there may be, each with as many members.
func broad() api.Types {
	t := types(integer("u8", 1))
	for i := 1; i < mostDefs; i++ {
		d := structure(numbered("s", i), mostSize)
		for k := range mostFields {
			d.Fields = append(d.Fields, field(numbered(longest("m")[:28], k), 0, 3*k))
		}
		t.Defs = append(t.Defs, d)
	}
	return t
}

// names are those of random type data: few enough that two type data have some in common.
var names = []string{"a", "b", "c", "_", "A9", "int32", "thread_t", "proc_t", "x_1", "Z", "list", "node", longest("n"), longest("n")[1:]}

var members = []string{"m", "n", "o", "p_x", "q", "r9", "_s", longest("m")}

// randomKinds returns kinds of definitions, the first one such that it contains no other type.
func randomKinds(source *rand.Rand, n int) []int {
	kinds := []int{api.DfInt}
	if source.Intn(3) == 0 {
		kinds[0] = api.DfEnum
	}
	for len(kinds) < n {
		kinds = append(kinds, []int{api.DfInt, api.DfPtr, api.DfPtr, api.DfArray, api.DfStruct, api.DfStruct, api.DfStruct, api.DfEnum, api.DfAlias}[source.Intn(9)])
	}
	return kinds
}

// randomTypes returns well-formed type data with 1 to 12 definitions.
func randomTypes(source *rand.Rand) api.Types {
	kinds := randomKinds(source, 1+source.Intn(12))
	own := source.Perm(len(names))
	var t api.Types
	for i, kind := range kinds {
		d := api.Def{Kind: kind}
		if kind != api.DfPtr && kind != api.DfArray {
			d.Name = names[own[i]]
		}
		fill(source, t, kinds, &d)
		t.Defs = append(t.Defs, d)
	}
	return shuffled(source, t)
}

// fill gives a definition behind those of t what its kind needs: it contains only types ahead of it, and pointers.
func fill(source *rand.Rand, t api.Types, kinds []int, d *api.Def) {
	i := len(t.Defs)
	switch d.Kind {
	case api.DfInt:
		d.Int = api.Int{Size: 1 << source.Intn(4), Signed: source.Intn(2) == 0}
	case api.DfPtr:
		d.Ref = source.Intn(i)
		if k := source.Intn(len(kinds)); kinds[k] != api.DfPtr && kinds[k] != api.DfArray {
			d.Ref = k
		}
	case api.DfArray:
		d.Ref = source.Intn(i)
		d.N = 1 + source.Intn(min(mostSize/sizeAhead(t, kinds, d.Ref), 6))
	case api.DfStruct:
		fillStructure(source, t, kinds, d)
	case api.DfEnum:
		for _, k := range source.Perm(len(members))[:1+source.Intn(4)] {
			d.Fields = append(d.Fields, field(members[k], 0, []int{0, 1, -1, 7, 300, math.MaxInt32, math.MinInt32}[source.Intn(7)]))
		}
	case api.DfAlias:
		d.Ref = contained(source, i, kinds)
	}
}

// contained returns a type ahead of the definition i, or a pointer.
func contained(source *rand.Rand, i int, kinds []int) int {
	if k := source.Intn(len(kinds)); kinds[k] == api.DfPtr {
		return k
	}
	return source.Intn(i)
}

// sizeAhead returns the size of a type of which only pointers need not be there yet.
func sizeAhead(t api.Types, kinds []int, i int) int {
	if kinds[i] == api.DfPtr {
		return 8
	}
	d := t.Defs[i]
	switch d.Kind {
	case api.DfArray:
		return d.N * sizeAhead(t, kinds, d.Ref)
	case api.DfAlias:
		return sizeAhead(t, kinds, d.Ref)
	}
	return wantSize(t, i)
}

func fillStructure(source *rand.Rand, t api.Types, kinds []int, d *api.Def) {
	for _, k := range source.Perm(len(members))[:1+source.Intn(4)] {
		i := contained(source, len(t.Defs), kinds)
		at := d.N + source.Intn(3)*source.Intn(2)
		if len(d.Fields) == 0 {
			at = 0
		}
		if end := at + sizeAhead(t, kinds, i); end <= mostSize {
			d.Fields = append(d.Fields, field(members[k], i, at))
			d.N = end
		}
	}
	d.N += min(source.Intn(9)*source.Intn(2), mostSize-d.N)
}

// shuffled returns type data with its definitions in another order.
func shuffled(source *rand.Rand, t api.Types) api.Types {
	order := source.Perm(len(t.Defs))
	return wantNumbered(t, order, func(i int) int { return slices.Index(order, i) })
}

// part returns type data with some types of t, and those that can be reached from them, in another order; some anonymous ones are there twice.
func part(source *rand.Rand, t api.Types) api.Types {
	if len(t.Defs) == 0 {
		return t
	}
	var kept []int
	for range source.Intn(4) {
		for k, is := range reached(t, source.Intn(len(t.Defs))) {
			if is && !slices.Contains(kept, k) {
				kept = append(kept, k)
			}
		}
	}
	for _, i := range slices.Clone(kept) {
		if !uses(t.Defs[i], "Name") && source.Intn(3) == 0 {
			kept = append(kept, i)
		}
	}
	source.Shuffle(len(kept), func(i, k int) { kept[i], kept[k] = kept[k], kept[i] })
	return wantNumbered(t, kept, func(i int) int {
		for {
			if k := source.Intn(len(kept)); kept[k] == i {
				return k
			}
		}
	})
}

// changed returns type data that differs in one place or more, well-formed or not.
func changed(source *rand.Rand, t api.Types) api.Types {
	t = copied(t)
	if len(t.Defs) == 0 {
		return types(pointer(source.Intn(2)))
	}
	d := &t.Defs[source.Intn(len(t.Defs))]
	number := []int{-1, 0, 1, 2, 3, 4, 8, 16, mostSize, mostSize + 1, len(t.Defs), source.Intn(len(t.Defs)), source.Intn(len(t.Defs)), math.MaxInt, math.MinInt}[source.Intn(15)]
	name := append([]string{"", "9a", "a-b", longest("n") + "n", "a b", " ", "a *", "é"}, names...)[source.Intn(8+len(names))]
	switch source.Intn(10) {
	case 0:
		d.Kind = source.Intn(9) - 1
	case 1:
		d.Name = name
	case 2:
		d.Int.Size = number
	case 3:
		d.Int.Signed = !d.Int.Signed
	case 4, 5:
		d.Ref = number
	case 6:
		d.N = []int{number, d.N + 1, d.N - 1}[source.Intn(3)]
	case 7:
		t.Defs = append(t.Defs, t.Defs[source.Intn(len(t.Defs))])
	default:
		changeFields(source, d, name, number)
	}
	return copied(t)
}

func changeFields(source *rand.Rand, d *api.Def, name string, number int) {
	if len(d.Fields) == 0 {
		d.Fields = []api.Field{field("m", 0, 0)}
		return
	}
	k := source.Intn(len(d.Fields))
	f := &d.Fields[k]
	switch source.Intn(6) {
	case 0:
		f.Name = name
	case 1:
		f.Type = number
	case 2:
		f.At = []int{number, f.At + 1, f.At - 1}[source.Intn(3)]
	case 3:
		d.Fields = append(d.Fields, *f)
	case 4:
		d.Fields = slices.Delete(d.Fields, k, k+1)
	case 5:
		d.Fields[0], *f = *f, d.Fields[0]
	}
}

// relative returns well-formed type data that has much in common with t: a part of it, or one that differs in few places.
func relative(source *rand.Rand, t api.Types) api.Types {
	if len(t.Defs) == 0 || source.Intn(3) == 0 {
		return part(source, t)
	}
	for {
		u := part(source, t)
		for range 1 + source.Intn(2) {
			u = changed(source, u)
		}
		if wantWellFormed(u) {
			return u
		}
	}
}

// small calls try with all type data of n definitions, of which each one has a name of its own or none, and few members.
func small(n int, try func(t api.Types)) {
	t := api.Types{Defs: make([]api.Def, n)}
	var choose func(i int)
	choose = func(i int) {
		if i == n {
			try(copied(t))
			return
		}
		for _, d := range smallDefs(names[i], n) {
			t.Defs[i] = d
			choose(i + 1)
		}
	}
	choose(0)
}

func smallDefs(name string, n int) []api.Def {
	list := []api.Def{integer(name, 2), enumeration(name, field("m", 0, 1))}
	for i := range n {
		list = append(list, pointer(i), array(i, 1), array(i, 30), alias(name, i), structure(name, 16, field("m", i, 0)), structure(name, 8, field("m", i, 0), field("n", (i+1)%n, 4)))
	}
	return list
}

// What the functions return, in one value each.

func member(t api.Types, i int, name string) found {
	f, e := ctf.Member(t, i, name)
	return found{f, e}
}

func path(t api.Types, i int, names ...string) place {
	k, at, e := ctf.Path(t, i, names)
	return place{k, at, e}
}

func unique(t api.Types) reduction {
	r, to, e := ctf.Unique(t)
	return reduction{t: r, to: to, e: e}
}

func merge(t, u api.Types) reduction {
	r, to, toU, e := ctf.Merge(t, u)
	return reduction{t: r, to: to, u: toU, e: e}
}

func trim(t api.Types, names ...string) reduction {
	r, to, e := ctf.Trim(t, names)
	return reduction{t: r, to: to, e: e}
}
