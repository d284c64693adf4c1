package insn

import (
	"iter"
	"strings"

	"tapline/api"
)

// Assemble returns the code of an assembly text whose first instruction has the address at, its symbols, and the line of an error.
func Assemble(text string, at int64) ([]byte, []api.Sym, int, api.Errno) {
	if len(text) > api.MaxText {
		return nil, nil, 0, api.ErrLong
	}
	if !canStand(at) {
		return nil, nil, 0, api.ErrArg
	}
	a := assembler{end: at, labels: map[string]int64{}}
	e := caught(func() {
		a.readAll(text, at)
		a.encodeAll()
	})
	if e != api.OK {
		return nil, nil, a.line, e
	}
	return a.code, sized(a.syms, a.end), 0, api.OK
}

func canStand(at int64) bool {
	return 0 <= at && at <= api.MaxAt
}

// assembler is what is known of a text up to a line.
type assembler struct {
	line   int
	end    int64 // the address behind the instructions
	list   []placed
	labels map[string]int64
	syms   []api.Sym
	code   []byte
}

// placed is an instruction of a text; its target is a label unless that is empty.
type placed struct {
	line  int
	next  int64
	x     api.Insn
	label string
}

func (a *assembler) readAll(text string, at int64) {
	for number, line := range lines(text) {
		a.line = number
		a.read(line)
		require(a.end-at <= api.MaxCode && len(a.syms) <= api.MaxSyms, api.ErrLong)
	}
}

// lines returns the lines of a text with their numbers, without comments.
func lines(text string) iter.Seq2[int, string] {
	return func(yield func(int, string) bool) {
		rest, more := text, true
		for number := 1; more; number++ {
			var line string
			line, rest, more = strings.Cut(rest, "\n")
			line, _, _ = strings.Cut(line, ";")
			if !yield(number, line) {
				return
			}
		}
	}
}

// read takes up what a line defines, once all of it has been read: an error in its form comes first.
func (a *assembler) read(line string) {
	s := scanner{rest: line, labels: true}
	label := s.definition()
	function := ""
	if label == "" {
		function = s.directive()
	}
	s.blanks()
	if s.rest != "" {
		s.instruction()
	}
	if label != "" {
		a.define(label)
	}
	if function != "" {
		a.define(function)
		a.syms = append(a.syms, api.Sym{Name: function, At: a.end})
	}
	if s.x.Op != 0 {
		a.end += int64(s.shape.length())
		a.list = append(a.list, placed{line: a.line, next: a.end, x: s.x, label: s.label})
	}
}

// definition reads a name and a colon, if the line begins with these, and returns the name.
func (s *scanner) definition() string {
	s.blanks()
	before := s.rest
	name := s.word()
	s.blanks()
	if isName(name) && s.accept(":") {
		return name
	}
	s.rest = before
	return ""
}

// directive reads a directive, if the line is one, and returns its name.
func (s *scanner) directive() string {
	if !s.accept(".func") {
		return ""
	}
	s.require(s.blanks() > 0)
	name := s.name()
	s.end()
	return name
}

func (a *assembler) define(label string) {
	_, defined := a.labels[label]
	require(!defined, api.ErrLabel)
	a.labels[label] = a.end
}

func (a *assembler) encodeAll() {
	for _, p := range a.list {
		a.line = p.line
		if p.label != "" {
			value, defined := a.labels[p.label]
			require(defined, api.ErrLabel)
			p.x.Imm = value - p.next
		}
		// Only a target can be wrong here: the scanner has examined all else.
		b, e := Encode(p.x)
		require(e == api.OK, api.ErrReach)
		a.code = append(a.code, b...)
	}
}

// sized returns symbols with their sizes: each one ends where the next one begins, the last one at end.
func sized(syms []api.Sym, end int64) []api.Sym {
	var list []api.Sym
	for i, s := range syms {
		next := end
		if i+1 < len(syms) {
			next = syms[i+1].At
		}
		list = append(list, api.Sym{Name: s.Name, At: s.At, Size: next - s.At})
	}
	return list
}
