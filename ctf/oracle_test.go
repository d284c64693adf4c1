package ctf_test

import (
	"encoding/binary"
	"fmt"
	"math"
	"math/big"
	"reflect"
	"regexp"
	"slices"
	"strings"

	"tapline/api"
)

// What the tests know of the chapter, written without package ctf: sentence by sentence, with all ways through the definitions in a matrix.

const (
	mostDefs   = 200
	mostFields = 32
	mostSize   = 512
	mostNames  = 16
)

var namePattern = regexp.MustCompile(`^[a-zA-Z_][a-zA-Z0-9_]{0,30}$`)

// fieldsOf lists the fields that each kind of definition uses.
var fieldsOf = map[int]string{
	api.DfInt:    "Kind Name Int",
	api.DfPtr:    "Kind Ref",
	api.DfArray:  "Kind Ref N",
	api.DfStruct: "Kind Name N Fields",
	api.DfEnum:   "Kind Name Fields",
	api.DfAlias:  "Kind Name Ref",
}

func uses(d api.Def, field string) bool {
	return slices.Contains(strings.Fields(fieldsOf[d.Kind]), field)
}

// refs returns the types that a definition names by Ref, and by Type of members.
func refs(d api.Def) []int {
	var list []int
	if uses(d, "Ref") {
		list = append(list, d.Ref)
	}
	if d.Kind == api.DfStruct {
		for _, f := range d.Fields {
			list = append(list, f.Type)
		}
	}
	return list
}

// ways tells of each two definitions whether a way of at least one step leads from one to the other, by the references of those from which it goes on.
func ways(t api.Types, goesOn func(d api.Def) bool) [][]bool {
	n := len(t.Defs)
	m := make([][]bool, n)
	for i, d := range t.Defs {
		m[i] = make([]bool, n)
		for _, k := range refs(d) {
			m[i][k] = m[i][k] || goesOn(d)
		}
	}
	for via := range n {
		for i := range n {
			for k := range n {
				m[i][k] = m[i][k] || m[i][via] && m[via][k]
			}
		}
	}
	return m
}

// reached tells of each definition whether it is the definition i or can be reached from it.
func reached(t api.Types, i int) []bool {
	list := ways(t, func(api.Def) bool { return true })[i]
	list[i] = true
	return list
}

func hasCycle(t api.Types, goesOn func(d api.Def) bool) bool {
	m := ways(t, goesOn)
	for i := range m {
		if m[i][i] {
			return true
		}
	}
	return false
}

// wantWellFormed reports whether type data is well-formed, by the chapter's seven conditions.
func wantWellFormed(t api.Types) bool {
	if len(t.Defs) > mostDefs {
		return false
	}
	names := map[string]bool{}
	for _, d := range t.Defs {
		if !wantForm(d, len(t.Defs)) || d.Name != "" && names[d.Name] {
			return false
		}
		names[d.Name] = true
	}
	isContaining := func(d api.Def) bool { return d.Kind == api.DfArray || d.Kind == api.DfAlias || d.Kind == api.DfStruct }
	isAnonymous := func(d api.Def) bool { return d.Kind == api.DfPtr || d.Kind == api.DfArray }
	if hasCycle(t, isContaining) || hasCycle(t, isAnonymous) {
		return false
	}
	for i, d := range t.Defs {
		if bigSize(t, i).Cmp(big.NewInt(mostSize)) > 0 || d.Kind == api.DfStruct && !wantHeld(t, d) {
			return false
		}
	}
	return true
}

// wantForm reports whether a definition is as in the chapter's table, with indices of n definitions.
func wantForm(d api.Def, n int) bool {
	v := reflect.ValueOf(d)
	for i := range v.NumField() {
		f := v.Field(i)
		isZero := f.IsZero() || f.Kind() == reflect.Slice && f.Len() == 0
		if !uses(d, v.Type().Field(i).Name) && !isZero {
			return false
		}
	}
	for _, k := range refs(d) {
		if k < 0 || k >= n {
			return false
		}
	}
	return fieldsOf[d.Kind] != "" &&
		(!uses(d, "Name") || namePattern.MatchString(d.Name)) &&
		(!uses(d, "Int") || slices.Contains([]int{1, 2, 4, 8}, d.Int.Size)) &&
		(!uses(d, "N") || d.N >= 1 && d.N <= mostSize) &&
		(!uses(d, "Fields") || wantFields(d))
}

func wantFields(d api.Def) bool {
	names := map[string]bool{}
	for _, f := range d.Fields {
		if !namePattern.MatchString(f.Name) || d.Kind == api.DfEnum && (f.Type != 0 || f.At != int(int32(f.At))) {
			return false
		}
		names[f.Name] = true
	}
	return len(d.Fields) >= 1 && len(d.Fields) <= mostFields && len(names) == len(d.Fields)
}

// wantHeld reports whether the members of a structure are in order, and end within it.
func wantHeld(t api.Types, d api.Def) bool {
	end := big.NewInt(0)
	for _, f := range d.Fields {
		at := big.NewInt(int64(f.At))
		if at.Cmp(end) < 0 {
			return false
		}
		end = at.Add(at, bigSize(t, f.Type))
	}
	return end.Cmp(big.NewInt(int64(d.N))) <= 0
}

// bigSize returns the size of a type, however large it is.
func bigSize(t api.Types, i int) *big.Int {
	d := t.Defs[i]
	switch d.Kind {
	case api.DfInt:
		return big.NewInt(int64(d.Int.Size))
	case api.DfPtr:
		return big.NewInt(8)
	case api.DfArray:
		size := bigSize(t, d.Ref)
		return size.Mul(size, big.NewInt(int64(d.N)))
	case api.DfStruct:
		return big.NewInt(int64(d.N))
	case api.DfEnum:
		return big.NewInt(4)
	}
	return bigSize(t, d.Ref)
}

func wantSize(t api.Types, i int) int { return int(bigSize(t, i).Int64()) }

func wantText(t api.Types, i int) string {
	d := t.Defs[i]
	switch d.Kind {
	case api.DfPtr:
		return wantText(t, d.Ref) + " *"
	case api.DfArray:
		return fmt.Sprintf("%s [%d]", wantText(t, d.Ref), d.N)
	}
	return d.Name
}

func wantTexts(t api.Types) []string {
	var list []string
	for i := range t.Defs {
		list = append(list, wantText(t, i))
	}
	return list
}

// wantLookup returns the index of the named definition with a name, or -1.
func wantLookup(t api.Types, name string) int {
	return slices.IndexFunc(t.Defs, func(d api.Def) bool { return uses(d, "Name") && d.Name == name })
}

func wantResolved(t api.Types, i int) int {
	if t.Defs[i].Kind == api.DfAlias {
		return wantResolved(t, t.Defs[i].Ref)
	}
	return i
}

// found is what Member returns.
type found struct {
	f api.Field
	e api.Errno
}

func wantMember(t api.Types, i int, name string) found {
	d := t.Defs[wantResolved(t, i)]
	if d.Kind != api.DfStruct {
		return found{e: api.ErrForm}
	}
	for _, f := range d.Fields {
		if f.Name == name {
			return found{f: f}
		}
	}
	return found{e: api.ErrNone}
}

// place is what Path returns.
type place struct {
	i, at int
	e     api.Errno
}

func wantPlace(t api.Types, i int, path []string) place {
	if len(path) > mostNames {
		return place{e: api.ErrLong}
	}
	if len(path) == 0 {
		return place{i: i}
	}
	first := wantMember(t, i, path[0])
	if first.e != api.OK {
		return place{e: first.e}
	}
	rest := wantPlace(t, first.f.Type, path[1:])
	if rest.e == api.OK {
		rest.at += first.f.At
	}
	return rest
}

// wantEqual reports whether a type of well-formed type data is equivalent to one of other well-formed type data.
func wantEqual(t api.Types, i int, u api.Types, j int) bool {
	if wantText(t, i) != wantText(u, j) {
		return false
	}
	for k, is := range reached(t, i) {
		if d := t.Defs[k]; is && uses(d, "Name") && !wantAlike(t, d, u) {
			return false
		}
	}
	return true
}

// wantAlike reports whether a named definition of t is like the one of u with its name.
func wantAlike(t api.Types, d api.Def, u api.Types) bool {
	j := wantLookup(u, d.Name)
	return j >= 0 && reflect.DeepEqual(portrait(t, d), portrait(u, u.Defs[j]))
}

// portrait returns what is compared of a definition: it has texts where the definition has indices.
func portrait(t api.Types, d api.Def) []any {
	list := []any{d.Kind, d.Name, d.Int, d.N}
	for _, f := range d.Fields {
		list = append(list, f.Name, f.At)
	}
	for _, k := range refs(d) {
		list = append(list, wantText(t, k))
	}
	return list
}

// reduction is what Unique, Trim and, with two lists, Merge return.
type reduction struct {
	t     api.Types
	to, u []int
	e     api.Errno
}

func equalReductions(a, b reduction) bool {
	return equal(a.t, b.t) && slices.Equal(a.to, b.to) && slices.Equal(a.u, b.u) && a.e == b.e
}

// equal reports whether type data is the same; nil and empty lists are.
func equal(t, u api.Types) bool { return reflect.DeepEqual(copied(t), copied(u)) }

// copied returns type data in new memory, with nil in the place of empty lists.
func copied(t api.Types) api.Types {
	var c api.Types
	for _, d := range t.Defs {
		d.Fields = append([]api.Field(nil), d.Fields...)
		c.Defs = append(c.Defs, d)
	}
	return c
}

// wantNumbered returns the definitions of t with these indices, in which each index has its new number.
func wantNumbered(t api.Types, kept []int, number func(i int) int) api.Types {
	var r api.Types
	for _, i := range kept {
		d := copied(api.Types{Defs: t.Defs[i : i+1]}).Defs[0]
		if uses(d, "Ref") {
			d.Ref = number(d.Ref)
		}
		for k := range d.Fields {
			if d.Kind == api.DfStruct {
				d.Fields[k].Type = number(d.Fields[k].Type)
			}
		}
		r.Defs = append(r.Defs, d)
	}
	return r
}

// wantUnique returns what Unique of well-formed type data returns; the texts are those of the definitions.
func wantUnique(t api.Types, texts []string) reduction {
	var kept []int
	var keptTexts []string
	for i, text := range texts {
		if !slices.Contains(keptTexts, text) {
			kept, keptTexts = append(kept, i), append(keptTexts, text)
		}
	}
	number := func(i int) int { return slices.Index(keptTexts, texts[i]) }
	r := reduction{t: wantNumbered(t, kept, number)}
	for i := range texts {
		r.to = append(r.to, number(i))
	}
	return r
}

// wantMerged returns what Merge of well-formed type data returns.
func wantMerged(t, u api.Types) reduction {
	for i, d := range t.Defs {
		if j := wantLookup(u, d.Name); uses(d, "Name") && j >= 0 && !wantEqual(t, i, u, j) {
			return reduction{e: api.ErrMerge}
		}
	}
	n := len(t.Defs)
	var all []int
	for j := range u.Defs {
		all = append(all, j)
	}
	behind := wantNumbered(u, all, func(j int) int { return n + j })
	both := api.Types{Defs: append(copied(t).Defs, behind.Defs...)}
	r := wantUnique(both, append(wantTexts(t), wantTexts(u)...))
	if len(r.t.Defs) > mostDefs {
		return reduction{e: api.ErrLong}
	}
	r.to, r.u = r.to[:n:n], r.to[n:]
	return r
}

// wantTrimmed returns what Trim of well-formed type data returns.
func wantTrimmed(t api.Types, names []string) reduction {
	if len(names) > mostDefs {
		return reduction{e: api.ErrLong}
	}
	isKept := make([]bool, len(t.Defs))
	for _, name := range names {
		i := wantLookup(t, name)
		if i < 0 {
			return reduction{e: api.ErrNone}
		}
		for k, is := range reached(t, i) {
			isKept[k] = isKept[k] || is
		}
	}
	var kept, to []int
	for i, is := range isKept {
		number := -1
		if is {
			number = len(kept)
			kept = append(kept, i)
		}
		to = append(to, number)
	}
	return reduction{t: wantNumbered(t, kept, func(i int) int { return to[i] }), to: to}
}

// wantBytes returns the bytes of type data, well-formed or not. Varint's of Go are the chapter's integers.
func wantBytes(t api.Types) []byte {
	b := []byte{67, 84, 70, 1}
	integer := func(x int) { b = binary.AppendVarint(b, int64(x)) }
	text := func(s string) { integer(len(s)); b = append(b, s...) }
	integer(len(t.Defs))
	for _, d := range t.Defs {
		integer(d.Kind)
		text(d.Name)
		integer(d.Int.Size)
		isSigned := byte(0)
		if d.Int.Signed {
			isSigned = 1
		}
		b = append(b, isSigned)
		integer(d.Ref)
		integer(d.N)
		integer(len(d.Fields))
		for _, f := range d.Fields {
			text(f.Name)
			integer(f.Type)
			integer(f.At)
		}
	}
	return b
}

// reader reads type data from bytes with little care: it is wrong exactly if the bytes of what it reads are not these.
type reader struct{ b []byte }

func (r *reader) integer() int {
	x, n := binary.Varint(r.b)
	if n <= 0 {
		r.b = nil
		return 0
	}
	r.b = r.b[n:]
	return int(x)
}

func (r *reader) text() string {
	n := min(max(r.integer(), 0), len(r.b))
	s := string(r.b[:n])
	r.b = r.b[n:]
	return s
}

func (r *reader) bool() bool {
	if len(r.b) == 0 {
		return false
	}
	c := r.b[0]
	r.b = r.b[1:]
	return c == 1
}

// wantDecoded returns the type data whose bytes b are, and whether there is any.
func wantDecoded(b []byte) (api.Types, bool) {
	var t api.Types
	r := reader{b[min(4, len(b)):]}
	for n := r.integer(); n > 0 && len(r.b) > 0; n-- {
		d := api.Def{Kind: r.integer(), Name: r.text(), Int: api.Int{Size: r.integer(), Signed: r.bool()}, Ref: r.integer(), N: r.integer()}
		for m := r.integer(); m > 0 && len(r.b) > 0; m-- {
			d.Fields = append(d.Fields, api.Field{Name: r.text(), Type: r.integer(), At: r.integer()})
		}
		t.Defs = append(t.Defs, d)
	}
	return t, slices.Equal(wantBytes(t), b)
}

// strangeIntegers are integers near those at which their bytes change.
func strangeIntegers() []int {
	list := []int{math.MaxInt, math.MinInt, math.MaxInt - 1, math.MinInt + 1, math.MaxInt32, math.MinInt32, math.MaxInt32 + 1, math.MinInt32 - 1, 1<<32 + 1, -1 << 32}
	for bit := range 63 {
		list = append(list, 1<<bit, 1<<bit-1, -1<<bit, -1<<bit-1)
	}
	return list
}
