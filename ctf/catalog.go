package ctf

import (
	"slices"

	"tapline/api"
)

// catalog is a graph with the texts of its types. A named definition is the first one with its text: no other text is a name.
type catalog struct {
	graph
	texts []string
	first map[string]int // by texts
}

func catalogOf(g graph) catalog {
	c := catalog{graph: g, texts: g.allTexts(), first: map[string]int{}}
	for i, text := range c.texts {
		if _, known := c.first[text]; !known {
			c.first[text] = i
		}
	}
	return c
}

// agrees reports whether each named definition that can be reached from the roots is in another catalog too.
func (c catalog) agrees(o catalog, roots []int) bool {
	for i, reached := range c.reachable(roots) {
		if reached && isNamed(c.graph[i]) && !c.isIn(o, i) {
			return false
		}
	}
	return true
}

// isIn reports whether another catalog has a named definition too: the same one, but for the indices of types, which have the same texts.
func (c catalog) isIn(o catalog, i int) bool {
	d := c.graph[i]
	j, exists := o.first[d.Name]
	if !exists {
		return false
	}
	e := o.graph[j]
	isSameField := func(x, y api.Field) bool { return x.Name == y.Name && x.At == y.At }
	return d.Kind == e.Kind && d.Int == e.Int && d.N == e.N && slices.EqualFunc(d.Fields, e.Fields, isSameField) &&
		slices.Equal(c.textsOf(references(d)), o.textsOf(references(e)))
}

func (c catalog) textsOf(list []int) []string {
	var texts []string
	for _, i := range list {
		texts = append(texts, c.texts[i])
	}
	return texts
}

// unique returns the definitions that are the first ones with their texts, and of each definition the new index of its text.
func (c catalog) unique() ([]api.Def, []int) {
	kept, to := c.reduced(func(i int) bool { return c.first[c.texts[i]] == i })
	for i, text := range c.texts {
		to[i] = to[c.first[text]]
	}
	return c.selected(kept, to), to
}

// canMerge reports whether all named definitions with one name are equivalent in both graphs.
func canMerge(g, h graph) bool {
	a, b := catalogOf(g), catalogOf(h)
	var roots []int
	for i, d := range g {
		if _, common := b.first[d.Name]; common && isNamed(d) {
			roots = append(roots, i)
		}
	}
	// Two of these are equivalent unless a definition that is reached differs; it is the same which of them reaches it.
	return a.agrees(b, roots)
}

// joined returns the definitions of one graph, and behind them those of another one with new indices.
func joined(g, h graph) graph {
	both := slices.Clone(g)
	for _, d := range h {
		both = append(both, renumbered(d, func(i int) int { return i + len(g) }))
	}
	return both
}
