package insn

import (
	"math"
	"strconv"
	"strings"

	"tapline/api"
)

const maxDigits = 19

// Print returns an instruction as a canonical line of assembly language.
func Print(x api.Insn) (string, api.Errno) {
	o, e := described(x)
	if e != api.OK {
		return "", e
	}
	line := o.mnemonic
	for i, operand := range layouts[o.shape].operands {
		if i == 0 {
			line += " "
		} else {
			line += ", "
		}
		line += operandText(operand, x)
	}
	return line, api.OK
}

func operandText(operand int, x api.Insn) string {
	switch operand {
	case operandA:
		return registerText(x.A)
	case operandB:
		return registerText(x.B)
	case operandNumber:
		return strconv.FormatInt(x.Imm, 10)
	case operandTarget:
		return "." + signedText(x.Imm)
	case operandAddress:
		if x.Imm != 0 {
			return "[" + registerText(x.B) + signedText(x.Imm) + "]"
		}
	}
	return "[" + registerText(x.B) + "]"
}

func registerText(number int) string {
	return "r" + strconv.Itoa(number)
}

func signedText(v int64) string {
	if v < 0 {
		return strconv.FormatInt(v, 10)
	}
	return "+" + strconv.FormatInt(v, 10)
}

// Parse returns the instruction of a line of assembly language without labels.
func Parse(line string) (api.Insn, api.Errno) {
	if len(line) > api.MaxText {
		return api.Insn{}, api.ErrLong
	}
	s := scanner{rest: line}
	if e := caught(s.instruction); e != api.OK {
		return api.Insn{}, e
	}
	if Check(s.x) != api.OK {
		return api.Insn{}, api.ErrReach
	}
	return s.x, api.OK
}

// caught executes work, and returns the error with which it panicked.
func caught(work func()) (e api.Errno) {
	defer func() {
		switch r := recover().(type) {
		case nil:
		case api.Errno:
			e = r
		default:
			panic(r)
		}
	}()
	work()
	return api.OK
}

// scanner reads a line from left to right, and panics with ErrAsm where it has not the form of one.
type scanner struct {
	rest   string
	labels bool // whether a target may be a name
	shape  shape
	x      api.Insn // a target in it may not fit yet: other errors come first
	label  string   // the name that is the target
}

// instruction reads an instruction line.
func (s *scanner) instruction() {
	s.blanks()
	o, known := byMnemonic(s.word())
	s.require(known)
	s.x.Op = o.op
	s.shape = o.shape
	readers := operandReaders()
	for i, operand := range layouts[o.shape].operands {
		if i == 0 {
			s.require(s.blanks() > 0)
		} else {
			s.comma()
		}
		readers[operand](s)
	}
	s.end()
}

// operandReaders returns for each operand of a line the method that reads it.
func operandReaders() []func(*scanner) {
	return []func(*scanner){
		operandA:        (*scanner).registerA,
		operandB:        (*scanner).registerB,
		operandNumber:   (*scanner).number,
		operandAddress:  (*scanner).address,
		operandIndirect: (*scanner).indirect,
		operandTarget:   (*scanner).target,
	}
}

func (s *scanner) registerA() {
	s.x.A = s.register()
}

func (s *scanner) registerB() {
	s.x.B = s.register()
}

func (s *scanner) register() int {
	s.require(s.accept("r"))
	s.require(s.rest != "" && '0' <= s.rest[0] && s.rest[0] <= '7')
	number := int(s.rest[0] - '0')
	s.rest = s.rest[1:]
	return number
}

func (s *scanner) number() {
	negative := s.accept("-")
	v, exact := signed(s.digits(), negative)
	s.require(exact && s.shape.fits(v))
	s.x.Imm = v
}

func (s *scanner) address() {
	s.base()
	if negative := s.accept("-"); negative || s.accept("+") {
		s.blanks()
		v, _ := signed(s.digits(), negative)
		s.require(s.shape.fits(v))
		s.x.Imm = v
		s.blanks()
	}
	s.require(s.accept("]"))
}

func (s *scanner) indirect() {
	s.base()
	s.require(s.accept("]"))
}

// base reads the beginning of an address.
func (s *scanner) base() {
	s.require(s.accept("["))
	s.blanks()
	s.registerB()
	s.blanks()
}

func (s *scanner) target() {
	if negative := s.accept(".-"); negative || s.accept(".+") {
		s.x.Imm, _ = signed(s.digits(), negative)
		return
	}
	s.require(s.labels)
	s.label = s.name()
}

// digits reads a number without a sign, which a uint64 can hold.
func (s *scanner) digits() uint64 {
	n := 0
	var v uint64
	for n < len(s.rest) && isDigit(s.rest[n]) {
		s.require(n < maxDigits)
		v = 10*v + uint64(s.rest[n]-'0')
		n++
	}
	s.require(n > 0)
	s.rest = s.rest[n:]
	return v
}

// signed returns the int64 with a magnitude and a sign, and whether there is one: if not, the nearest.
func signed(magnitude uint64, negative bool) (int64, bool) {
	switch {
	case negative && magnitude > 1<<63:
		return math.MinInt64, false
	case negative:
		return -int64(magnitude), true
	case magnitude > math.MaxInt64:
		return math.MaxInt64, false
	}
	return int64(magnitude), true
}

func (s *scanner) name() string {
	word := s.word()
	s.require(isName(word))
	return word
}

// word reads letters, digits and underscores as far as they go.
func (s *scanner) word() string {
	n := wordLength(s.rest)
	word := s.rest[:n]
	s.rest = s.rest[n:]
	return word
}

func (s *scanner) comma() {
	s.blanks()
	s.require(s.accept(","))
	s.blanks()
}

// end requires that nothing but blanks is left.
func (s *scanner) end() {
	s.blanks()
	s.require(s.rest == "")
}

// blanks passes over spaces and tabs, and returns how many there were.
func (s *scanner) blanks() int {
	before := len(s.rest)
	s.rest = strings.TrimLeft(s.rest, " \t")
	return before - len(s.rest)
}

func (s *scanner) accept(text string) bool {
	after, found := strings.CutPrefix(s.rest, text)
	s.rest = after
	return found
}

func (s *scanner) require(holds bool) {
	require(holds, api.ErrAsm)
}

// require leaves what caught executes, unless the condition holds.
func require(holds bool, e api.Errno) {
	if !holds {
		panic(e)
	}
}

func isName(text string) bool {
	return 0 < len(text) && len(text) <= api.MaxName && wordLength(text) == len(text) && !isDigit(text[0])
}

// wordLength returns how many letters, digits and underscores a text begins with.
func wordLength(text string) int {
	n := 0
	for n < len(text) && (isLetter(text[n]) || isDigit(text[n])) {
		n++
	}
	return n
}

func isLetter(c byte) bool {
	return 'a' <= c && c <= 'z' || 'A' <= c && c <= 'Z' || c == '_'
}

func isDigit(c byte) bool {
	return '0' <= c && c <= '9'
}
