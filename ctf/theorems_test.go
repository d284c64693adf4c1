package ctf_test

import (
	"math/rand"
	"slices"
	"testing"

	"tapline/api"
	"tapline/ctf"
)

// P8.2 to P8.8, told by the package's own functions.

// checked fails unless type data is well-formed.
func checked(t *testing.T, what string, s api.Types) {
	t.Helper()
	if e := ctf.Check(s); e != api.OK {
		t.Fatalf("%s: Check of %v = %d", what, s, e)
	}
}

// equivalent fails unless two types are equivalent.
func equivalent(t *testing.T, what string, s api.Types, i int, u api.Types, j int) {
	t.Helper()
	if !ctf.Equal(s, i, u, j) {
		t.Fatalf("%s: %d in %v is not equivalent to %d in %v", what, i, s, j, u)
	}
}

func textOf(t *testing.T, s api.Types, i int) string {
	t.Helper()
	text, e := ctf.Text(s, i)
	if e != api.OK {
		t.Fatalf("Text of %d in %v: %d", i, s, e)
	}
	return text
}

func sizeOf(t *testing.T, s api.Types, i int) int {
	t.Helper()
	n, e := ctf.Size(s, i)
	if e != api.OK {
		t.Fatalf("Size of %d in %v: %d", i, s, e)
	}
	return n
}

// samples returns well-formed type data of many sorts.
func samples(source *rand.Rand, n int) []api.Types {
	list := []api.Types{{}, sample(), nested(), broad(), some("a", 200), chain(func(i int) api.Def { return pointer(i + 1) }), chain(func(i int) api.Def { return structure(numbered("s", i), 512-i, field("m", i+1, 1)) })}
	for len(list) < n {
		s := randomTypes(source)
		list = append(list, s, part(source, s))
	}
	return list
}

func TestP8_2Bytes(t *testing.T) {
	t.Parallel()
	source, same, others := random(), 0, 0
	for _, s := range samples(source, 3000) {
		b, e := ctf.Encode(s)
		if e != api.OK {
			t.Fatalf("Encode of %v: %d", s, e)
		}
		if r, e := ctf.Decode(b); e != api.OK || !ctf.Same(r, s) {
			t.Fatalf("Decode of Encode of %v = %v, %d", s, r, e)
		}
		for range 20 {
			changedBytes := slices.Clone(b)
			changedBytes[source.Intn(len(b))] = byte(source.Intn(256) >> source.Intn(8))
			r, e := ctf.Decode(changedBytes)
			if e != api.OK {
				others++
				continue
			}
			same++
			if again, e := ctf.Encode(r); e != api.OK || !slices.Equal(again, changedBytes) {
				t.Fatalf("Encode of Decode of %v = %v, %d", changedBytes, again, e)
			}
		}
	}
	enough(t, "bytes of type data", same, 5000)
	enough(t, "other bytes", others, 5000)
}

func TestP8_3Unique(t *testing.T) {
	t.Parallel()
	source, smaller := random(), 0
	for _, s := range samples(source, 2000) {
		r := unique(s)
		checked(t, "Unique", r.t)
		if r.e != api.OK || len(r.to) != len(s.Defs) {
			t.Fatalf("Unique of %v = %v", s, r)
		}
		seen := map[string]bool{}
		for i := range r.t.Defs {
			text := textOf(t, r.t, i)
			if seen[text] {
				t.Fatalf("Unique of %v has the text %q twice", s, text)
			}
			seen[text] = true
		}
		for i, k := range r.to {
			equivalent(t, "Unique", s, i, r.t, k)
		}
		again := unique(r.t)
		if !ctf.Same(again.t, r.t) || !isIdentity(again.to) {
			t.Fatalf("Unique of Unique of %v = %v", s, again)
		}
		if len(r.t.Defs) < len(s.Defs) {
			smaller++
		}
	}
	enough(t, "type data with texts that are there twice", smaller, 250)
}

func isIdentity(list []int) bool {
	for i, k := range list {
		if i != k {
			return false
		}
	}
	return true
}

// pairs returns type data that mostly can be merged.
func pairs(source *rand.Rand, n int) [][2]api.Types {
	list := [][2]api.Types{{sample(), nested()}, {broad(), some("b", 3)}, {some("a", 100), some("b", 100)}, {some("a", 100), some("b", 101)}, {nested(), nested()}}
	for len(list) < n {
		s := randomTypes(source)
		pair := [2]api.Types{part(source, s), part(source, s)}
		switch source.Intn(5) {
		case 0:
			pair[0] = relative(source, s)
		case 1:
			pair[0] = randomTypes(source)
		}
		list = append(list, pair)
	}
	return list
}

func TestP8_4Merged(t *testing.T) {
	t.Parallel()
	source, merged, refused := random(), 0, 0
	for _, pair := range pairs(source, 3000) {
		s, u := pair[0], pair[1]
		own := merge(s, s)
		if r := unique(s); !ctf.Same(own.t, r.t) || !slices.Equal(own.to, r.to) || !slices.Equal(own.u, r.to) || own.e != r.e {
			t.Fatalf("Merge of %v with itself = %v; Unique is %v", s, own, r)
		}
		r := merge(s, u)
		if r.e != api.OK {
			refused++
			continue
		}
		merged++
		checked(t, "Merge", r.t)
		if len(r.to) != len(s.Defs) || len(r.u) != len(u.Defs) {
			t.Fatalf("Merge of %v and %v = %v", s, u, r)
		}
		isNew := make([]bool, len(r.t.Defs))
		for i, k := range r.to {
			equivalent(t, "Merge", s, i, r.t, k)
			isNew[k] = true
		}
		for i, k := range r.u {
			equivalent(t, "Merge", u, i, r.t, k)
			isNew[k] = true
		}
		if slices.Contains(isNew, false) {
			t.Fatalf("Merge of %v and %v = %v has a definition of neither", s, u, r)
		}
	}
	enough(t, "merged type data", merged, 1800)
	enough(t, "type data that is not merged", refused, 300)
}

func TestP8_5Equivalence(t *testing.T) {
	t.Parallel()
	source, count := random(), 0
	for range 400 {
		s := randomTypes(source)
		list := []api.Types{s, part(source, s), part(source, s), relative(source, s), relative(source, s)}
		// Equivalent types of three type data.
		for range 40 {
			a, b, c := list[source.Intn(5)], list[source.Intn(5)], list[source.Intn(5)]
			for i := range a.Defs {
				equivalent(t, "with itself", a, i, a, i)
				for j := range b.Defs {
					is := ctf.Equal(a, i, b, j)
					if is != ctf.Equal(b, j, a, i) {
						t.Fatalf("Equal of %d in %v and %d in %v is %t, and not in the other order", i, a, j, b, is)
					}
					for k := range c.Defs {
						if is && ctf.Equal(b, j, c, k) {
							equivalent(t, "by another one", a, i, c, k)
							count++
						}
					}
				}
			}
		}
	}
	enough(t, "types that are equivalent to a common one", count, 10000)
}

// TestP8_5Members checks that equivalent types have the same sizes, texts and members.
func TestP8_5Members(t *testing.T) {
	t.Parallel()
	source, same, reachedMembers := random(), 0, 0
	for range 800 {
		s := randomTypes(source)
		for _, u := range []api.Types{part(source, s), relative(source, s), unique(s).t} {
			for i := range s.Defs {
				for j := range u.Defs {
					if ctf.Equal(s, i, u, j) {
						same++
						reachedMembers += compareMembers(t, s, i, u, j)
					}
				}
			}
		}
	}
	enough(t, "equivalent types", same, 5000)
	enough(t, "members of equivalent types", reachedMembers, 3000)
}

// compareMembers checks what equivalent types have in common, and returns how many members are reached.
func compareMembers(t *testing.T, s api.Types, i int, u api.Types, j int) int {
	t.Helper()
	if a, b := sizeOf(t, s, i), sizeOf(t, u, j); a != b {
		t.Fatalf("%d in %v has %d bytes, %d in %v has %d", i, s, a, j, u, b)
	}
	if a, b := textOf(t, s, i), textOf(t, u, j); a != b {
		t.Fatalf("%d in %v is %q, %d in %v is %q", i, s, a, j, u, b)
	}
	count := 0
	everyPath(append([]string{"nothing"}, members[:4]...), 2, func(names []string) {
		a, b := path(s, i, names...), path(u, j, names...)
		if a.at != b.at || a.e != b.e {
			t.Fatalf("Path of %q from %d in %v = %v; from %d in %v it is %v", names, i, s, a, j, u, b)
		}
		if a.e == api.OK && len(names) > 0 {
			equivalent(t, "a member", s, a.i, u, b.i)
			count++
		}
	})
	return count
}

func TestP8_6Order(t *testing.T) {
	t.Parallel()
	source, merged, errors := random(), 0, map[api.Errno]int{}
	for _, pair := range pairs(source, 2500) {
		s, u := pair[0], pair[1]
		a, b := merge(s, u), merge(u, s)
		if a.e != b.e {
			t.Fatalf("Merge of %v and %v: %d, but %d in the other order", s, u, a.e, b.e)
		}
		if a.e != api.OK {
			continue
		}
		merged++
		for i := range s.Defs {
			equivalent(t, "in both orders", a.t, a.to[i], b.t, b.u[i])
		}
		for i := range u.Defs {
			equivalent(t, "in both orders", a.t, a.u[i], b.t, b.to[i])
		}
		for _, w := range []api.Types{randomTypes(source), relative(source, s), relative(source, a.t), some("a", 190+source.Intn(11)), some("zz", 201-len(a.t.Defs))} {
			if len(w.Defs) > mostDefs {
				continue
			}
			x, y := merge(a.t, w), merge(b.t, w)
			if x.e != y.e {
				t.Fatalf("Merge of %v with the merged %v and %v: %d, but %d in the other order", w, s, u, x.e, y.e)
			}
			errors[x.e]++
		}
	}
	enough(t, "merged type data", merged, 1500)
	for _, e := range []api.Errno{api.OK, api.ErrMerge, api.ErrLong} {
		enough(t, "third type data with one of the results", errors[e], 500)
	}
}

func TestP8_7Trimmed(t *testing.T) {
	t.Parallel()
	source, smaller := random(), 0
	for _, s := range samples(source, 3000) {
		var list []string
		for _, d := range s.Defs {
			if d.Name != "" && source.Intn(4) == 0 {
				list = append(list, d.Name)
			}
		}
		r := trim(s, list...)
		checked(t, "Trim", r.t)
		if r.e != api.OK || len(r.to) != len(s.Defs) {
			t.Fatalf("Trim of %v by %q = %v", s, list, r)
		}
		if again := trim(r.t, list...); !ctf.Same(again.t, r.t) || !isIdentity(again.to) {
			t.Fatalf("Trim of Trim of %v by %q = %v", s, list, again)
		}
		checkKept(t, s, list, r)
		if len(r.t.Defs) < len(s.Defs) && len(r.t.Defs) > len(list) {
			smaller++
		}
	}
	enough(t, "trimmed type data", smaller, 500)
}

// checkKept checks that a type is kept just if it can be reached from a name, and that it is equivalent then.
func checkKept(t *testing.T, s api.Types, list []string, r reduction) {
	t.Helper()
	isReached := make([]bool, len(s.Defs))
	for _, name := range list {
		i, _ := ctf.Lookup(s, name)
		follow(s, i, isReached)
	}
	next := 0
	for i, k := range r.to {
		switch {
		case (k >= 0) != isReached[i]:
			t.Fatalf("Trim of %v by %q: the new index of %d is %d", s, list, i, k)
		case k >= 0:
			if k != next {
				t.Fatalf("Trim of %v by %q: the new indices are %v", s, list, r.to)
			}
			next++
			if len(s.Defs) < 100 {
				equivalent(t, "Trim", s, i, r.t, k)
			}
		}
	}
	if next != len(r.t.Defs) {
		t.Fatalf("Trim of %v by %q has %d definitions, %d of which are kept", s, list, len(r.t.Defs), next)
	}
}

func follow(s api.Types, i int, isReached []bool) {
	if isReached[i] {
		return
	}
	isReached[i] = true
	for _, k := range refs(s.Defs[i]) {
		follow(s, k, isReached)
	}
}

func TestP8_8Members(t *testing.T) {
	t.Parallel()
	source, count := random(), 0
	for _, s := range samples(source, 2000) {
		for i, d := range s.Defs {
			if d.Kind != api.DfStruct {
				continue
			}
			covered := make([]bool, sizeOf(t, s, i))
			for _, f := range d.Fields {
				m := member(s, i, f.Name)
				if m.e != api.OK || m.f != f {
					t.Fatalf("Member %q of %d in %v = %v", f.Name, i, s, m)
				}
				for at := m.f.At; at < m.f.At+sizeOf(t, s, m.f.Type); at++ {
					if at < 0 || at >= len(covered) || covered[at] {
						t.Fatalf("the byte %d of %q of %d in %v is outside, or in another member", at, f.Name, i, s)
					}
					covered[at] = true
				}
				count++
			}
			if len(s.Defs) > 100 && i > 5 {
				break
			}
		}
	}
	enough(t, "members", count, 5000)
}

// TestP8_8Paths checks that a path can be followed name by name.
func TestP8_8Paths(t *testing.T) {
	t.Parallel()
	source, count, errors := random(), 0, map[api.Errno]int{}
	list := []string{"o_in", "p_b", "y", "m", "nothing"}
	try := func(s api.Types, i int, names []string) {
		if len(names) == 0 {
			return
		}
		whole, first := path(s, i, names...), path(s, i, names[0])
		want := first
		if first.e == api.OK {
			want = path(s, first.i, names[1:]...)
		}
		if want.e == api.OK {
			want.at += first.at
			count++
		}
		errors[want.e]++
		if whole != want {
			t.Fatalf("Path of %q from %d in %v = %v; by its first name it is %v", names, i, s, whole, want)
		}
	}
	for i := range nested().Defs {
		everyPath(list, 4, func(names []string) { try(nested(), i, names) })
	}
	for range 600 {
		s := randomTypes(source)
		for i := range s.Defs {
			everyPath(members[:4], 2, func(names []string) { try(s, i, names) })
		}
	}
	s := chain(func(i int) api.Def { return structure(numbered("s", i), 512-i, field("m", i+1, 1)) })
	for n := range 16 {
		try(s, 7*n, slices.Repeat([]string{"m"}, n+1))
	}
	enough(t, "paths to a member", count, 1000)
	enough(t, "paths to no member", errors[api.ErrNone], 1000)
	enough(t, "paths through a type without members", errors[api.ErrForm], 1000)
}
