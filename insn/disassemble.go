package insn

import (
	"slices"
	"strings"

	"tapline/api"
)

// Disassemble returns an assembly text of code at an address, with symbols.
func Disassemble(b []byte, at int64, syms []api.Sym) (string, api.Errno) {
	if len(syms) > api.MaxSyms {
		return "", api.ErrLong
	}
	if !canStand(at) {
		return "", api.ErrArg
	}
	list, offsets, e := Sweep(b)
	if e != api.OK {
		return "", e
	}
	var places []int64
	for _, offset := range append(offsets, len(b)) {
		places = append(places, at+int64(offset))
	}
	if !areSymbols(syms, places) {
		return "", api.ErrForm
	}
	return listing(list, places, syms), api.OK
}

// areSymbols reports whether a text whose instructions, and at last its end, have these places can have these symbols.
func areSymbols(syms []api.Sym, places []int64) bool {
	names := map[string]bool{}
	for i, s := range syms {
		if !isName(s.Name) || names[s.Name] || !slices.Contains(places, s.At) || i > 0 && s.At < syms[i-1].At {
			return false
		}
		names[s.Name] = true
	}
	return slices.Equal(sized(syms, places[len(places)-1]), syms)
}

func listing(list []api.Insn, places []int64, syms []api.Sym) string {
	var text strings.Builder
	next := 0
	for i, place := range places {
		for next < len(syms) && syms[next].At == place {
			text.WriteString(".func " + syms[next].Name + "\n")
			next++
		}
		if i < len(list) {
			// What Sweep returns is well-formed, so it has a line.
			line, _ := Print(list[i])
			text.WriteString(line + "\n")
		}
	}
	return text.String()
}
