package ctf

import (
	"math"
	"slices"

	"tapline/api"
	"tapline/bits"
)

// isWellFormed reports whether type data is well-formed. Each condition is examined only where those ahead of it hold.
func isWellFormed(t api.Types) bool {
	g := graph(t.Defs)
	return len(g) <= api.MaxDefs && g.haveForm() && g.haveNames() &&
		g.ends(isContainer) && g.ends(isAnonymous) && g.fit()
}

// haveForm reports whether each definition by itself is as its kind asks for, with references that are indices.
func (g graph) haveForm() bool {
	return !slices.ContainsFunc(g, func(d api.Def) bool { return !hasForm(d, len(g)) })
}

// hasForm reports whether a definition is as its kind asks for, among n definitions.
func hasForm(d api.Def, n int) bool {
	switch d.Kind {
	case api.DfInt:
		return isName(d.Name) && bits.Check(d.Int) == api.OK && hasOnly(d, api.Def{Name: d.Name, Int: d.Int})
	case api.DfPtr:
		return isIndex(d.Ref, n) && hasOnly(d, api.Def{Ref: d.Ref})
	case api.DfArray:
		return isIndex(d.Ref, n) && isLength(d.N) && hasOnly(d, api.Def{Ref: d.Ref, N: d.N})
	case api.DfStruct:
		isMember := func(f api.Field) bool { return isIndex(f.Type, n) }
		return isName(d.Name) && isLength(d.N) && areFields(d.Fields, isMember) && hasOnly(d, api.Def{Name: d.Name, N: d.N, Fields: d.Fields})
	case api.DfEnum:
		return isName(d.Name) && areFields(d.Fields, isEnumerated) && hasOnly(d, api.Def{Name: d.Name, Fields: d.Fields})
	case api.DfAlias:
		return isName(d.Name) && isIndex(d.Ref, n) && hasOnly(d, api.Def{Name: d.Name, Ref: d.Ref})
	}
	return false
}

// hasOnly reports whether a definition has nothing but its kind and what another one has.
func hasOnly(d, what api.Def) bool {
	what.Kind = d.Kind
	return isSame(d, what)
}

func isLength(n int) bool { return 1 <= n && n <= api.MaxSize }

func isName(s string) bool {
	if s == "" || len(s) > api.MaxName {
		return false
	}
	for i := range len(s) {
		if !isLetter(s[i]) && (i == 0 || !isDigit(s[i])) {
			return false
		}
	}
	return true
}

func isLetter(c byte) bool { return 'a' <= c && c <= 'z' || 'A' <= c && c <= 'Z' || c == '_' }

func isDigit(c byte) bool { return '0' <= c && c <= '9' }

// areFields reports whether a definition can have these fields.
func areFields(list []api.Field, isField func(f api.Field) bool) bool {
	if len(list) < 1 || len(list) > api.MaxFields {
		return false
	}
	var names []string
	for _, f := range list {
		if !isName(f.Name) || !isField(f) {
			return false
		}
		names = append(names, f.Name)
	}
	return areDistinct(names)
}

func isEnumerated(f api.Field) bool {
	return f.Type == 0 && math.MinInt32 <= f.At && f.At <= math.MaxInt32
}

func areDistinct(names []string) bool {
	for i, name := range names {
		if slices.Contains(names[:i], name) {
			return false
		}
	}
	return true
}

// haveNames reports whether no two named definitions have the same name.
func (g graph) haveNames() bool {
	var names []string
	for _, d := range g {
		if isNamed(d) {
			names = append(names, d.Name)
		}
	}
	return areDistinct(names)
}

// isContainer reports whether a definition contains the types to which it refers.
func isContainer(d api.Def) bool { return d.Kind != api.DfPtr }

func isAnonymous(d api.Def) bool { return !isNamed(d) }

// ends reports whether each way along references ends that goes on only from definitions of one sort.
func (g graph) ends(goesOn func(d api.Def) bool) bool {
	entered, left := make([]bool, len(g)), make([]bool, len(g))
	var visit func(i int) bool
	visit = func(i int) bool {
		switch {
		case !goesOn(g[i]):
			return true
		case entered[i]:
			// One that is not left yet leads back to itself.
			return left[i]
		}
		entered[i] = true
		for _, k := range references(g[i]) {
			if !visit(k) {
				return false
			}
		}
		left[i] = true
		return true
	}
	for i := range g {
		if !visit(i) {
			return false
		}
	}
	return true
}

// fit reports whether no type is too large, and all members are in order within their structures.
func (g graph) fit() bool {
	sizes := make([]int, len(g))
	// A size that overflows is that of a type which contains one that is too large and whose size does not overflow.
	for i := range g {
		sizes[i] = g.size(i)
		if sizes[i] > api.MaxSize {
			return false
		}
	}
	return !slices.ContainsFunc(g, func(d api.Def) bool { return d.Kind == api.DfStruct && !holds(d, sizes) })
}

// holds reports whether a structure has room for its members, one behind the other.
func holds(d api.Def, sizes []int) bool {
	end := 0
	for _, f := range d.Fields {
		if f.At < end || f.At > d.N-sizes[f.Type] {
			return false
		}
		end = f.At + sizes[f.Type]
	}
	return true
}
