package insn_test

import (
	"fmt"
	"math"
	"math/big"
	"math/rand"
	"regexp"
	"strings"

	"tapline/api"
)

// What the tests know of the chapter, written without package insn: its tables, and its grammar as regular expressions.

// row is a row of the chapter's first table, for one operation.
type row struct {
	op        int
	mnemonic  string
	operands  string // a and b: registers; n: a number; m: an address; i: the swapped [B]; t: a target
	bytes     int    // of Imm
	low, high int64
	registers int
	relative  bool
	reads     string // as in the table of I8
	writes    string
	behind    int // bytes behind the first one
}

var rows = allRows()

func allRows() []row {
	list := []row{
		{op: api.InNop, mnemonic: "nop"},
		{op: api.InRet, mnemonic: "ret", reads: "7", writes: "7"},
		{op: api.InBreak, mnemonic: "break"},
		{op: api.InMove, mnemonic: "move", operands: "ab", registers: 2, behind: 1, reads: "B", writes: "A"},
		{op: api.InSet, mnemonic: "set", operands: "an", registers: 1, bytes: 10, low: math.MinInt64, high: math.MaxInt64, behind: 11, writes: "A"},
		{op: api.InLit, mnemonic: "lit", operands: "an", registers: 1, bytes: 1, low: -64, high: 63, behind: 2, writes: "A"},
		{op: api.InInc, mnemonic: "inc", operands: "an", registers: 1, bytes: 1, low: -64, high: 63, behind: 2, reads: "A", writes: "A"},
		{op: api.InLoad1, mnemonic: "load1", operands: "am", registers: 2, bytes: 1, low: -64, high: 63, behind: 2, reads: "B", writes: "A"},
		{op: api.InLoad8, mnemonic: "load8", operands: "am", registers: 2, bytes: 1, low: -64, high: 63, behind: 2, reads: "B", writes: "A"},
		{op: api.InStore1, mnemonic: "store1", operands: "ma", registers: 2, bytes: 1, low: -64, high: 63, behind: 2, reads: "AB"},
		{op: api.InStore8, mnemonic: "store8", operands: "ma", registers: 2, bytes: 1, low: -64, high: 63, behind: 2, reads: "AB"},
		{op: api.InJump, mnemonic: "jump", operands: "t", bytes: 2, low: -8192, high: 8191, behind: 2, relative: true},
		{op: api.InCall, mnemonic: "call", operands: "t", bytes: 2, low: -8192, high: 8191, behind: 2, relative: true, reads: "7", writes: "7"},
		{op: api.InJumpR, mnemonic: "jumpr", operands: "a", registers: 1, behind: 1, reads: "A"},
		{op: api.InCallR, mnemonic: "callr", operands: "a", registers: 1, behind: 1, reads: "A7", writes: "7"},
		{op: api.InPush, mnemonic: "push", operands: "a", registers: 1, behind: 1, reads: "A7", writes: "7"},
		{op: api.InPop, mnemonic: "pop", operands: "a", registers: 1, behind: 1, reads: "7", writes: "A7"},
		{op: api.InLea, mnemonic: "lea", operands: "at", registers: 1, bytes: 2, low: -8192, high: 8191, behind: 3, relative: true, writes: "A"},
		{op: api.InSys, mnemonic: "sys", operands: "n", bytes: 1, high: 127, behind: 1},
		{op: api.InSwap, mnemonic: "swap", operands: "ai", registers: 2, behind: 1, reads: "AB", writes: "A"},
	}
	for i, name := range strings.Fields("add sub mul div mod and or xor shl shr sar") {
		list = append(list, row{op: 5 + i, mnemonic: name, operands: "ab", registers: 2, behind: 1, reads: "AB", writes: "A"})
	}
	for i, name := range strings.Fields("beq bne blt bge") {
		list = append(list, row{op: 21 + i, mnemonic: name, operands: "abt", registers: 2, bytes: 1, low: -64, high: 63, behind: 2, relative: true, reads: "AB"})
	}
	return list
}

func rowOf(op int) (row, bool) {
	for _, r := range rows {
		if r.op == op {
			return r, true
		}
	}
	return row{}, false
}

func (r row) allows(x api.Insn) bool {
	return isRegister(x.A, r.registers > 0) && isRegister(x.B, r.registers > 1) && r.low <= x.Imm && x.Imm <= r.high
}

func isRegister(n int, present bool) bool {
	return n == 0 || present && n > 0 && n < 8
}

func wellFormed(x api.Insn) bool {
	r, is := rowOf(x.Op)
	return is && r.allows(x)
}

// immediates returns values of Imm at the edges of the row's range, and some within it.
func (r row) immediates() []int64 {
	switch r.bytes {
	case 0:
		return []int64{0}
	case 10:
		return []int64{0, 1, -1, 63, 64, -64, -65, 127, 128, 8191, -8193, 0x123456789abcdef, -0x123456789abcdef, 1 << 55, 1 << 56, 1 << 62, -1 << 62, -1<<62 - 1, 1<<62 - 1, math.MaxInt64, math.MaxInt64 - 1, math.MinInt64, math.MinInt64 + 1}
	}
	return []int64{r.low, r.low + 1, (r.low + r.high) / 2, r.low/2 - 3 + r.high/2, 0, 1, 5, 62, r.high - 1, r.high}
}

// all returns the well-formed instructions of a row with the given immediates, and all registers.
func (r row) all(immediates []int64) []api.Insn {
	var list []api.Insn
	lastA, lastB := 0, 0
	if r.registers > 0 {
		lastA = 7
	}
	if r.registers > 1 {
		lastB = 7
	}
	for a := range lastA + 1 {
		for b := range lastB + 1 {
			for _, imm := range immediates {
				list = append(list, api.Insn{Op: r.op, A: a, B: b, Imm: imm})
			}
		}
	}
	return list
}

// samples returns well-formed instructions: of each operation, with each register, and with edges of Imm.
func samples() []api.Insn {
	var list []api.Insn
	for _, r := range rows {
		list = append(list, r.all(r.immediates())...)
	}
	return list
}

// few returns one well-formed instruction of each operation and edge.
func few() []api.Insn {
	var list []api.Insn
	for _, r := range rows {
		for i, imm := range r.immediates() {
			x := api.Insn{Op: r.op, Imm: imm}
			if r.registers > 0 {
				x.A = (3 + i) % 8
			}
			if r.registers > 1 {
				x.B = (6 + 3*i) % 8
			}
			list = append(list, x)
		}
	}
	return list
}

// wrong returns instructions that are not well-formed.
func wrong() []api.Insn {
	var list []api.Insn
	for _, op := range []int{0, -1, 35, 36, 75, 77, 127, 128, 204, 255, 256, 256 + api.InNop, -128, math.MaxInt, math.MinInt, math.MinInt + api.InNop, 1<<32 + api.InRet} {
		list = append(list, api.Insn{Op: op}, api.Insn{Op: op, A: 1, B: 1, Imm: 1})
	}
	for _, r := range rows {
		for _, n := range []int{1, 7, 8, 9, -1, -8, 256, math.MaxInt, math.MinInt, 1 << 32} {
			if !isRegister(n, r.registers > 0) {
				list = append(list, api.Insn{Op: r.op, A: n, Imm: r.high})
			}
			if !isRegister(n, r.registers > 1) {
				list = append(list, api.Insn{Op: r.op, B: n, Imm: r.low})
			}
		}
		for _, imm := range []int64{1, -1, r.low - 1, r.high + 1, 64, -65, 128, -8193, 8192, 1 << 32, math.MaxInt64, math.MinInt64} {
			if imm < r.low || imm > r.high {
				list = append(list, api.Insn{Op: r.op, Imm: imm})
			}
		}
	}
	return list
}

// wantEncoding returns the encoding of a well-formed instruction; the bytes of Imm are digits to the base 128.
func wantEncoding(x api.Insn) []byte {
	r, _ := rowOf(x.Op)
	b := []byte{byte(128 + x.Op)}
	if r.registers == 1 {
		b = append(b, byte(x.A))
	} else if r.registers == 2 {
		b = append(b, byte(8*x.A+x.B))
	}
	base := big.NewInt(128)
	rest := new(big.Int).Mod(big.NewInt(x.Imm), new(big.Int).Exp(base, big.NewInt(int64(r.bytes)), nil))
	for range r.bytes {
		digit := new(big.Int)
		rest.DivMod(rest, base, digit)
		b = append(b, byte(digit.Int64()))
	}
	return b
}

// wantLine returns the canonical line of a well-formed instruction.
func wantLine(x api.Insn) string {
	r, _ := rowOf(x.Op)
	var operands []string
	for _, c := range r.operands {
		switch c {
		case 'a':
			operands = append(operands, fmt.Sprintf("r%d", x.A))
		case 'b':
			operands = append(operands, fmt.Sprintf("r%d", x.B))
		case 'n':
			operands = append(operands, fmt.Sprint(x.Imm))
		case 't':
			operands = append(operands, fmt.Sprintf(".%+d", x.Imm))
		case 'i':
			operands = append(operands, fmt.Sprintf("[r%d]", x.B))
		case 'm':
			operands = append(operands, strings.Replace(fmt.Sprintf("[r%d%+d]", x.B, x.Imm), "+0]", "]", 1))
		}
	}
	return strings.TrimSuffix(r.mnemonic+" "+strings.Join(operands, ", "), " ")
}

const (
	blanks   = `[ \t]*`
	namePart = `[A-Za-z_][A-Za-z0-9_]{0,30}`
)

var (
	linePatterns     = patterns()
	labelPattern     = regexp.MustCompile(`(?s)\A` + blanks + `(` + namePart + `)` + blanks + `:(.*)\z`)
	directivePattern = regexp.MustCompile(`\A` + blanks + `\.func[ \t]+(` + namePart + `)` + blanks + `\z`)
	blankPattern     = regexp.MustCompile(`\A` + blanks + `\z`)
	namePattern      = regexp.MustCompile(`\A` + namePart + `\z`)
)

// patterns returns, by operation, the regular expression of its lines.
func patterns() map[int]*regexp.Regexp {
	operand := map[rune]string{
		'a': `r(?P<a>[0-7])`,
		'b': `r(?P<b>[0-7])`,
		'n': `(?P<digits>-?[0-9]{1,19})`,
		'm': `\[` + blanks + `r(?P<b>[0-7])` + blanks + `(?:(?P<sign>[+-])` + blanks + `(?P<digits>[0-9]{1,19})` + blanks + `)?\]`,
		'i': `\[` + blanks + `r(?P<b>[0-7])` + blanks + `\]`,
		't': `(?:\.(?P<sign>[+-])(?P<digits>[0-9]{1,19})|(?P<label>` + namePart + `))`,
	}
	result := map[int]*regexp.Regexp{}
	for _, r := range rows {
		var list []string
		for _, c := range r.operands {
			list = append(list, operand[c])
		}
		text := r.mnemonic
		if len(list) > 0 {
			text += `[ \t]+` + strings.Join(list, blanks+","+blanks)
		}
		result[r.op] = regexp.MustCompile(`\A` + blanks + text + blanks + `\z`)
	}
	return result
}

// wantParsed returns what an instruction line says: the instruction, and the label that is its target, if labels are allowed.
func wantParsed(line string, labels bool) (api.Insn, string, api.Errno) {
	for _, r := range rows {
		if !strings.Contains(line, r.mnemonic) {
			continue // as the expressions are slow
		}
		found := linePatterns[r.op].FindStringSubmatch(line)
		if found == nil {
			continue
		}
		part := map[string]string{}
		for i, name := range linePatterns[r.op].SubexpNames() {
			part[name] += found[i]
		}
		if part["label"] != "" && !labels {
			return api.Insn{}, "", api.ErrAsm
		}
		value := new(big.Int)
		value.SetString("0"+strings.TrimPrefix(part["digits"], "-"), 10)
		if part["sign"] == "-" || strings.HasPrefix(part["digits"], "-") {
			value.Neg(value)
		}
		fits := value.IsInt64() && r.low <= value.Int64() && value.Int64() <= r.high
		switch {
		case part["label"] == "" && !fits && r.relative:
			return api.Insn{}, "", api.ErrReach
		case part["label"] == "" && !fits:
			return api.Insn{}, "", api.ErrAsm
		}
		x := api.Insn{Op: r.op, Imm: value.Int64()}
		fmt.Sscan(part["a"], &x.A)
		fmt.Sscan(part["b"], &x.B)
		return x, part["label"], api.OK
	}
	return api.Insn{}, "", api.ErrAsm
}

// assembled is a result of Assemble.
type assembled struct {
	code []byte
	syms []api.Sym
	line int
	err  api.Errno
}

// wantAssembled returns what Assemble is to return for a text that is short enough at an address that is allowed.
func wantAssembled(text string, at int64) assembled {
	labels := map[string]int64{}
	var syms []api.Sym
	type target struct {
		line  int
		x     api.Insn
		label string
		next  int64
		late  api.Errno
	}
	var targets []target
	end := at
	for i, line := range strings.Split(text, "\n") {
		line, _, _ = strings.Cut(line, ";")
		defined, isFunction := "", false
		if found := labelPattern.FindStringSubmatch(line); found != nil {
			defined, line = found[1], found[2]
		} else if found := directivePattern.FindStringSubmatch(line); found != nil {
			defined, line, isFunction = found[1], "", true
		}
		if !blankPattern.MatchString(line) {
			x, label, e := wantParsed(line, true)
			if e == api.ErrAsm {
				return assembled{line: i + 1, err: e}
			}
			if e == api.ErrReach {
				x = api.Insn{Op: opOf(line)}
			}
			r, _ := rowOf(x.Op)
			targets = append(targets, target{i + 1, x, label, end + 1 + int64(r.behind), e})
		}
		if defined != "" {
			if _, is := labels[defined]; is {
				return assembled{line: i + 1, err: api.ErrLabel}
			}
			labels[defined] = end
		}
		if isFunction {
			syms = append(syms, api.Sym{Name: defined, At: end})
		}
		if n := len(targets); n > 0 {
			end = targets[n-1].next
		}
		if end-at > 2048 || len(syms) > 32 {
			return assembled{line: i + 1, err: api.ErrLong}
		}
	}
	var code []byte
	for _, t := range targets {
		if t.label != "" {
			value, is := labels[t.label]
			if !is {
				return assembled{line: t.line, err: api.ErrLabel}
			}
			t.x.Imm = value - t.next
		}
		if t.late != api.OK || !wellFormed(t.x) {
			return assembled{line: t.line, err: api.ErrReach}
		}
		code = append(code, wantEncoding(t.x)...)
	}
	for i := range syms {
		syms[i].Size = end - syms[i].At
		if i > 0 {
			syms[i-1].Size = syms[i].At - syms[i-1].At
		}
	}
	return assembled{code: code, syms: syms}
}

// opOf returns the operation of a line that has the form of an instruction line.
func opOf(line string) int {
	for op, p := range linePatterns {
		if p.MatchString(line) {
			return op
		}
	}
	return 0
}

// spaced returns a canonical line with blanks at the places where the grammar has them.
func spaced(source *rand.Rand, line string) string {
	some := func(least int) string {
		text := ""
		for range least + source.Intn(3) {
			text += string(" \t"[source.Intn(2)])
		}
		return text
	}
	mnemonic, operands, has := strings.Cut(line, " ")
	text := some(0) + mnemonic
	if has {
		text += some(1)
	}
	within := false
	for _, c := range operands {
		switch {
		case c == '[':
			within = true
			text += "[" + some(0)
		case c == ']':
			within = false
			text += some(0) + "]"
		case c == ',' || within && (c == '+' || c == '-'):
			text += some(0) + string(c) + some(0)
		case c != ' ':
			text += string(c)
		}
	}
	return text + some(0)
}

// changed returns a text in which some bytes are replaced, left out, doubled or put in.
func changed(source *rand.Rand, text string) string {
	const alphabet = " \t,[]+-.;:r0789_labFx\n\r\x00é"
	b := []byte(text)
	for range 1 + source.Intn(2) {
		i := source.Intn(len(b) + 1)
		c := alphabet[source.Intn(len(alphabet))]
		switch {
		case i == len(b) || source.Intn(4) == 0:
			b = append(b[:i], append([]byte{c}, b[i:]...)...)
		case source.Intn(3) == 0:
			b = append(b[:i], b[i+1:]...)
		case source.Intn(3) == 0:
			b = append(b[:i+1], b[i:]...)
		default:
			b[i] = c
		}
	}
	return string(b)
}

// random returns a generator of numbers that are the same in each run.
func random() *rand.Rand { return rand.New(rand.NewSource(2)) }

// randomText returns an assembly text with labels, directives and comments; mostly a correct one.
func randomText(source *rand.Rand) string {
	pool := few()
	var lines []string
	names := []string{"a", "b", "loop", "nop", "r0", "_", "func", "x9", strings.Repeat("n", 31)}
	source.Shuffle(len(names), func(i, j int) { names[i], names[j] = names[j], names[i] })
	defined := source.Intn(len(names) + 1)
	for _, name := range names[:defined] {
		if source.Intn(3) == 0 {
			lines = append(lines, ".func "+name)
		} else {
			lines = append(lines, name+strings.Repeat(" ", source.Intn(2))+":"+spaced(source, wantLine(pool[source.Intn(len(pool))])))
		}
	}
	for range source.Intn(20) {
		x := pool[source.Intn(len(pool))]
		line := wantLine(x)
		if r, _ := rowOf(x.Op); r.relative && defined > 0 && source.Intn(3) > 0 {
			line = line[:strings.Index(line, ".")] + names[source.Intn(defined)]
		}
		lines = append(lines, spaced(source, line))
	}
	switch source.Intn(16) {
	case 0:
		lines = append(lines, "jump missing")
	case 1:
		lines = append(lines, "twice:", "twice: nop")
	}
	source.Shuffle(len(lines), func(i, j int) { lines[i], lines[j] = lines[j], lines[i] })
	for i := range lines {
		switch source.Intn(8) {
		case 0:
			lines[i] += "; nop : [ .func"
		case 1:
			lines[i] += "\n \t"
		case 2:
			lines[i] += "\n;"
		}
	}
	return strings.Join(lines, "\n")
}
