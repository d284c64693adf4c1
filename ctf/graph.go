package ctf

import (
	"slices"
	"strconv"

	"tapline/api"
)

const (
	pointerSize = 8
	enumSize    = 4
)

// graph is a list of definitions whose references are indices of it.
type graph []api.Def

func isIndex(i, n int) bool { return 0 <= i && i < n }

func isNamed(d api.Def) bool { return d.Kind != api.DfPtr && d.Kind != api.DfArray }

// hasRef reports whether Ref is a reference: in other definitions it is zero, which is an index too.
func hasRef(d api.Def) bool {
	return d.Kind == api.DfPtr || d.Kind == api.DfArray || d.Kind == api.DfAlias
}

// references returns the types to which a definition refers.
func references(d api.Def) []int {
	if hasRef(d) {
		return []int{d.Ref}
	}
	var list []int
	if d.Kind == api.DfStruct {
		for _, f := range d.Fields {
			list = append(list, f.Type)
		}
	}
	return list
}

// renumbered returns a copy of a definition in which each type to which it refers has its new index.
func renumbered(d api.Def, to func(i int) int) api.Def {
	d.Fields = slices.Clone(d.Fields)
	if hasRef(d) {
		d.Ref = to(d.Ref)
	}
	if d.Kind == api.DfStruct {
		for i, f := range d.Fields {
			d.Fields[i].Type = to(f.Type)
		}
	}
	return d
}

// size returns the size of a type.
func (g graph) size(i int) int {
	d := g[i]
	switch d.Kind {
	case api.DfInt:
		return d.Int.Size
	case api.DfPtr:
		return pointerSize
	case api.DfArray:
		return d.N * g.size(d.Ref)
	case api.DfStruct:
		return d.N
	case api.DfAlias:
		return g.size(d.Ref)
	}
	return enumSize
}

// allTexts returns the texts of all types.
func (g graph) allTexts() []string {
	list := make([]string, len(g))
	var text func(i int) string
	text = func(i int) string {
		if list[i] == "" {
			d := g[i]
			if isNamed(d) {
				list[i] = d.Name
			} else {
				list[i] = text(d.Ref) + behind(d)
			}
		}
		return list[i]
	}
	for i := range g {
		text(i)
	}
	return list
}

// behind returns what the text of a pointer or an array has behind that of Ref.
func behind(d api.Def) string {
	if d.Kind == api.DfPtr {
		return " *"
	}
	return " [" + strconv.Itoa(d.N) + "]"
}

func (g graph) text(i int) string { return g.allTexts()[i] }

// lookup returns the index of the named definition with a name: the others have none, and are not found by an empty one.
func (g graph) lookup(name string) (int, api.Errno) {
	i := slices.IndexFunc(g, func(d api.Def) bool { return isNamed(d) && d.Name == name })
	if i < 0 {
		return 0, api.ErrNone
	}
	return i, api.OK
}

func (g graph) resolved(i int) int {
	for g[i].Kind == api.DfAlias {
		i = g[i].Ref
	}
	return i
}

func (g graph) member(i int, name string) (api.Field, api.Errno) {
	d := g[g.resolved(i)]
	if d.Kind != api.DfStruct {
		return api.Field{}, api.ErrForm
	}
	k := slices.IndexFunc(d.Fields, func(f api.Field) bool { return f.Name == name })
	if k < 0 {
		return api.Field{}, api.ErrNone
	}
	return d.Fields[k], api.OK
}

// reachable reports of each definition whether it can be reached from one of the roots.
func (g graph) reachable(roots []int) []bool {
	reached := make([]bool, len(g))
	var visit func(list []int)
	visit = func(list []int) {
		for _, i := range list {
			if !reached[i] {
				reached[i] = true
				visit(references(g[i]))
			}
		}
	}
	visit(roots)
	return reached
}

// reduced returns those definitions that are kept, and the new index of each definition, or -1.
func (g graph) reduced(isKept func(i int) bool) ([]int, []int) {
	var kept []int
	to := slices.Repeat([]int{-1}, len(g))
	for i := range g {
		if isKept(i) {
			to[i] = len(kept)
			kept = append(kept, i)
		}
	}
	return kept, to
}

// selected returns copies of some definitions in which all indices are new.
func (g graph) selected(kept, to []int) []api.Def {
	var defs []api.Def
	for _, i := range kept {
		defs = append(defs, renumbered(g[i], func(i int) int { return to[i] }))
	}
	return defs
}

// trimmed returns the definitions that can be reached from the roots, and the new index of each definition, or -1.
func (g graph) trimmed(roots []int) ([]api.Def, []int) {
	reached := g.reachable(roots)
	kept, to := g.reduced(func(i int) bool { return reached[i] })
	return g.selected(kept, to), to
}
