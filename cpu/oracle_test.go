package cpu_test

import (
	"math"
	"math/big"
	"math/rand"
	"slices"
	"strings"

	"tapline/api"
	"tapline/cpu"
	"tapline/insn"
)

// What the tests know of the chapter, written without package cpu: its table of effects, as texts that are calculated with big integers.

const (
	none     = 0
	readable = api.PmRead
	writable = api.PmRead + api.PmWrite
	code     = api.PmExec
	pageSize = 64
	mostRuns = 2000
)

// row is a row of the chapter's table. In its texts A and B are the registers ahead of the instruction, S is R[7], i is Imm, n is next, m is what is read from memory, and 8 is the number.
type row struct {
	op     int
	place  string // of memory
	reads  int
	writes int
	stored string
	sets   string // registers and what they become, in order
	pc     string // where it is not next
	when   string // what the branch compares
}

var rows = allRows()

func allRows() []row {
	list := []row{
		{op: api.InNop},
		{op: api.InMove, sets: "A=B"},
		{op: api.InSet, sets: "A=i"},
		{op: api.InLit, sets: "A=i"},
		{op: api.InInc, sets: "A=A+i"},
		{op: api.InLoad1, place: "B+i", reads: 1, sets: "A=m"},
		{op: api.InLoad8, place: "B+i", reads: 8, sets: "A=m"},
		{op: api.InStore1, place: "B+i", writes: 1, stored: "A"},
		{op: api.InStore8, place: "B+i", writes: 8, stored: "A"},
		{op: api.InBeq, pc: "n+i", when: "="},
		{op: api.InBne, pc: "n+i", when: "<>"},
		{op: api.InBlt, pc: "n+i", when: "<"},
		{op: api.InBge, pc: "n+i", when: ">="},
		{op: api.InJump, pc: "n+i"},
		{op: api.InJumpR, pc: "A"},
		{op: api.InCall, place: "S-8", writes: 8, stored: "n", sets: "S=S-8", pc: "n+i"},
		{op: api.InCallR, place: "S-8", writes: 8, stored: "n", sets: "S=S-8", pc: "A"},
		{op: api.InRet, place: "S", reads: 8, sets: "S=S+8", pc: "m"},
		{op: api.InPush, place: "S-8", writes: 8, stored: "A", sets: "S=S-8"},
		{op: api.InPop, place: "S", reads: 8, sets: "S=S+8 A=m"},
		{op: api.InLea, sets: "A=n+i"},
		{op: api.InSys},
		{op: api.InSwap, place: "B", reads: 8, writes: 8, stored: "A", sets: "A=m"},
		{op: api.InBreak},
	}
	for op := api.InAdd; op <= api.InSar; op++ {
		list = append(list, row{op: op})
	}
	return list
}

func rowOf(op int) row {
	for _, r := range rows {
		if r.op == op {
			return r
		}
	}
	panic("no row of the table")
}

// modulus is the number of values of a register.
var modulus = new(big.Int).Lsh(big.NewInt(1), 64)

// wrapped returns the register that has n as its value.
func wrapped(n *big.Int) int64 {
	rest := new(big.Int).Mod(n, modulus)
	if rest.Bit(63) == 1 {
		rest.Sub(rest, modulus)
	}
	return rest.Int64()
}

// unsigned returns the number of a register without a sign.
func unsigned(v int64) *big.Int { return new(big.Int).Mod(big.NewInt(v), modulus) }

// sum returns what a text of the table is: letters and the number 8, with + and - between them.
func sum(text string, letters map[byte]int64) int64 {
	total, minus := new(big.Int), false
	for i := range len(text) {
		switch c := text[i]; c {
		case '+', '-':
			minus = c == '-'
		default:
			term := big.NewInt(8)
			if c != '8' {
				term = big.NewInt(letters[c])
			}
			if minus {
				term.Neg(term)
			}
			total.Add(total, term)
		}
	}
	return wrapped(total)
}

// wantAlu returns the result of an arithmetic operation, and false for a division by zero.
func wantAlu(op int, a, b int64) (int64, bool) {
	x, y, z := big.NewInt(a), big.NewInt(b), new(big.Int)
	by := uint(new(big.Int).Mod(y, big.NewInt(64)).Uint64())
	switch op {
	case api.InAdd:
		z.Add(x, y)
	case api.InSub:
		z.Sub(x, y)
	case api.InMul:
		z.Mul(x, y)
	case api.InDiv, api.InMod:
		if b == 0 {
			return 0, false
		}
		rest := new(big.Int)
		z.QuoRem(x, y, rest)
		if op == api.InMod {
			z = rest
		}
	case api.InAnd:
		z.And(x, y)
	case api.InOr:
		z.Or(x, y)
	case api.InXor:
		z.Xor(x, y)
	case api.InShl:
		z.Lsh(x, by)
	case api.InShr:
		z.Rsh(unsigned(a), by)
	case api.InSar:
		// The quotient that is rounded down, where a shift of big integers is not relied on.
		z.Div(x, new(big.Int).Lsh(big.NewInt(1), by))
	}
	return wrapped(z), true
}

func isAlu(op int) bool { return op >= 5 && op <= 15 }

// lengthOf returns the length of an instruction's encoding.
func lengthOf(x api.Insn) int64 {
	b, e := insn.Encode(x)
	if e != api.OK {
		panic("not an instruction")
	}
	return int64(len(b))
}

func lettersOf(x api.Insn, r api.Regs) map[byte]int64 {
	return map[byte]int64{
		'A': r.R[x.A], 'B': r.R[x.B], 'S': r.R[7], 'i': x.Imm,
		'n': wrapped(new(big.Int).Add(big.NewInt(r.Pc), big.NewInt(lengthOf(x)))),
	}
}

// wantFootprint returns the footprint of a well-formed instruction.
func wantFootprint(x api.Insn, r api.Regs) []api.Access {
	var list []api.Access
	known := rowOf(x.Op)
	at := sum(known.place, lettersOf(x, r))
	if known.reads > 0 {
		list = append(list, api.Access{At: at, Size: known.reads})
	}
	if known.writes > 0 {
		list = append(list, api.Access{At: at, Size: known.writes, Write: true})
	}
	return list
}

// wantFault returns the fault of an access to some bytes, each of which has to have one of the permissions.
func wantFault(s api.Space, at int64, n, kind int, perms ...int) api.Fault {
	for i := range int64(n) {
		here := new(big.Int).Add(big.NewInt(at), big.NewInt(i))
		if here.Sign() < 0 || here.Cmp(big.NewInt(int64(len(s.Bytes)))) >= 0 {
			return api.Fault{Kind: api.FtMap, At: wrapped(here)}
		}
		if !slices.Contains(perms, s.Perm[here.Int64()/pageSize]) {
			return api.Fault{Kind: kind, At: here.Int64()}
		}
	}
	return api.Fault{}
}

// wantTrap returns the trap of a well-formed instruction.
func wantTrap(x api.Insn, s api.Space, r api.Regs) api.Trap {
	for _, a := range wantFootprint(x, r) {
		f := wantFault(s, a.At, a.Size, api.FtRead, readable, writable)
		if a.Write {
			f = wantFault(s, a.At, a.Size, api.FtWrite, writable)
		}
		if f != (api.Fault{}) {
			return api.Trap{Kind: api.TrFault, Fault: f}
		}
	}
	switch {
	case x.Op == api.InSys:
		return api.Trap{Kind: api.TrSys, N: int(x.Imm)}
	case x.Op == api.InBreak:
		return api.Trap{Kind: api.TrBreak}
	case (x.Op == api.InDiv || x.Op == api.InMod) && r.R[x.B] == 0:
		return api.Trap{Kind: api.TrDivide}
	}
	return api.Trap{}
}

// wantTaken reports whether a well-formed instruction jumps.
func wantTaken(x api.Insn, r api.Regs) bool {
	sign := "="
	switch order := big.NewInt(r.R[x.A]).Cmp(big.NewInt(r.R[x.B])); {
	case order < 0:
		sign = "<"
	case order > 0:
		sign = ">"
	}
	known := rowOf(x.Op)
	return known.pc != "" && (known.when == "" || strings.Contains(known.when, sign))
}

// wantEffect returns the effect of a well-formed instruction.
func wantEffect(x api.Insn, s api.Space, r api.Regs) api.Effect {
	want := api.Effect{Regs: r, Trap: wantTrap(x, s, r), Insn: x}
	known, letters := rowOf(x.Op), lettersOf(x, r)
	switch want.Trap.Kind {
	case api.TrNone:
		want.Regs.Pc = letters['n']
	case api.TrSys:
		want.Regs.Pc = letters['n']
		return want
	default:
		return want
	}
	at := sum(known.place, letters)
	letters['m'] = 0
	for i := known.reads - 1; i >= 0; i-- {
		letters['m'] = letters['m']<<8 + int64(s.Bytes[at+int64(i)])
	}
	if isAlu(x.Op) {
		want.Regs.R[x.A], _ = wantAlu(x.Op, r.R[x.A], r.R[x.B])
	}
	for _, set := range strings.Fields(known.sets) {
		register := map[byte]int{'A': x.A, 'S': 7}[set[0]]
		want.Regs.R[register] = sum(set[2:], letters)
	}
	if wantTaken(x, r) {
		want.Regs.Pc = sum(known.pc, letters)
	}
	if known.writes > 0 {
		want.At, want.Data = at, wantBytes(sum(known.stored, letters), known.writes)
	}
	return want
}

// wantBytes returns the lowest n bytes of v, the least significant first.
func wantBytes(v int64, n int) []byte {
	var b []byte
	rest := unsigned(v)
	for range n {
		digit := new(big.Int)
		rest.DivMod(rest, big.NewInt(256), digit)
		b = append(b, byte(digit.Int64()))
	}
	return b
}

// wantStep returns the effect of executing the instruction at Pc.
func wantStep(s api.Space, r api.Regs) api.Effect {
	var b []byte
	for len(b) < 12 && wantFault(s, r.Pc, len(b)+1, api.FtExec, code) == (api.Fault{}) {
		b = append(b, s.Bytes[r.Pc+int64(len(b))])
	}
	x, _, e := insn.Decode(b)
	switch e {
	case api.OK:
		return wantEffect(x, s, r)
	case api.ErrShort:
		return api.Effect{Regs: r, Trap: api.Trap{Kind: api.TrFault, Fault: wantFault(s, r.Pc, len(b)+1, api.FtExec, code)}}
	}
	return api.Effect{Regs: r, Trap: api.Trap{Kind: api.TrIllegal}}
}

// wantApplied returns the space with what an effect stores, without examining it.
func wantApplied(s api.Space, e api.Effect) api.Space {
	changed := copied(s)
	copy(changed.Bytes[e.At:], e.Data)
	return changed
}

func copied(s api.Space) api.Space {
	return api.Space{Perm: slices.Clone(s.Perm), Bytes: slices.Clone(s.Bytes)}
}

// equal reports whether two effects are the same, without package cpu.
func equal(a, b api.Effect) bool {
	return a.Regs == b.Regs && a.At == b.At && slices.Equal(a.Data, b.Data) && a.Trap == b.Trap && a.Insn == b.Insn
}

func equalSpaces(a, b api.Space) bool {
	return slices.Equal(a.Perm, b.Perm) && slices.Equal(a.Bytes, b.Bytes)
}

func isZero(s api.Space) bool { return len(s.Perm) == 0 && len(s.Bytes) == 0 }

// What the tests try.

func random() *rand.Rand { return rand.New(rand.NewSource(4)) }

// filled returns a space with these permissions and bytes that differ from their neighbours.
func filled(perms ...int) api.Space {
	s := api.Space{Perm: perms}
	for i := range pageSize * len(perms) {
		s.Bytes = append(s.Bytes, byte(37*i+i/pageSize+1))
	}
	return s
}

// sample returns the space of the chapter's examples, with bytes from an address on.
func sample(at int, b ...byte) api.Space {
	s := api.Space{Perm: []int{code, writable}, Bytes: make([]byte, 2*pageSize)}
	copy(s.Bytes[at:], b)
	return s
}

// spaces returns valid spaces: without pages, that of the examples, one whose pages have various neighbours, and one with the most pages.
func spaces() []api.Space {
	many := make([]int, 32)
	for i := range many {
		many[i] = []int{none, readable, writable, code}[i*i%7%4]
	}
	return []api.Space{{}, sample(100, 9), filled(writable, readable, writable, writable, none, writable, code, code, readable, none), filled(many...)}
}

// invalidSpaces returns spaces that are not valid.
func invalidSpaces() []api.Space {
	return []api.Space{
		{Bytes: []byte{0}}, {Perm: []int{0}}, {Perm: []int{writable}, Bytes: make([]byte, pageSize-1)}, {Perm: []int{code}, Bytes: make([]byte, pageSize+1)},
		filled(api.PmWrite), filled(writable, 5), filled(-1), filled(8), filled(make([]int, 33)...),
	}
}

// invalidInstructions returns instructions that are not well-formed.
func invalidInstructions() []api.Insn {
	return []api.Insn{
		{}, {Op: -1}, {Op: 35}, {Op: 75}, {Op: 77}, {Op: 204}, {Op: math.MaxInt}, {Op: math.MinInt}, {Op: 1<<32 + api.InNop},
		{Op: api.InNop, A: 1}, {Op: api.InRet, Imm: 1}, {Op: api.InMove, A: 8}, {Op: api.InMove, B: -1}, {Op: api.InAdd, B: math.MaxInt}, {Op: api.InPush, A: math.MinInt},
		{Op: api.InLit, Imm: 64}, {Op: api.InLoad8, Imm: -65}, {Op: api.InBeq, A: 1, B: 9}, {Op: api.InJump, Imm: 8192}, {Op: api.InSys, Imm: 128}, {Op: api.InSys, Imm: -1}, {Op: api.InSwap, Imm: 1}, {Op: api.InBreak, B: 1},
	}
}

// instructions returns well-formed instructions: of each operation, with all registers and edges of Imm.
func instructions() []api.Insn {
	var list []api.Insn
	for _, known := range rows {
		for _, imm := range []int64{0, 1, -1, 7, -8, 63, -64, 127, 200, 8191, -8192, math.MaxInt64, math.MinInt64, 0x123456789abcdef} {
			for a := range 8 {
				for b := range 8 {
					x := api.Insn{Op: known.op, A: a, B: b, Imm: imm}
					if insn.Check(x) == api.OK {
						list = append(list, x)
					}
				}
			}
		}
	}
	return list
}

// randomInstruction returns a well-formed instruction.
func randomInstruction(source *rand.Rand) api.Insn {
	known := rows[source.Intn(len(rows))]
	for {
		x := api.Insn{Op: known.op, A: source.Intn(8), B: source.Intn(8), Imm: int64(source.Intn(21) - 10)}
		if source.Intn(4) == 0 {
			x.Imm = int64(source.Uint64()) >> source.Intn(64)
		}
		// Some operations have few operands.
		x.A *= source.Intn(2)
		x.B *= source.Intn(2)
		x.Imm *= int64(source.Intn(2))
		if insn.Check(x) == api.OK {
			return x
		}
	}
}

// randomRegister returns a number that often is an address of the space, and often near the edge of a page.
func randomRegister(source *rand.Rand, s api.Space) int64 {
	switch source.Intn(7) {
	case 0:
		return int64(source.Intn(5) - 2)
	case 1:
		return []int64{0, 1, -1, 64, math.MaxInt64, math.MinInt64, math.MaxInt64 - 5, math.MinInt64 + 3, 1 << 32, -8}[source.Intn(10)]
	case 2:
		return int64(source.Uint64()) >> source.Intn(64)
	case 3, 4:
		return int64(pageSize*source.Intn(len(s.Perm)+1) + source.Intn(25) - 12)
	}
	return int64(source.Intn(len(s.Bytes) + 1))
}

func randomRegisters(source *rand.Rand, s api.Space) api.Regs {
	r := api.Regs{Pc: randomRegister(source, s)}
	for i := range r.R {
		r.R[i] = randomRegister(source, s)
	}
	if source.Intn(4) == 0 {
		r.R[source.Intn(8)] = r.R[source.Intn(8)]
	}
	return r
}

// randomSpace returns a valid space with a few pages, of which at least one can be written, and at least one has instructions.
func randomSpace(source *rand.Rand) api.Space {
	s := api.Space{Perm: []int{code, writable}}
	for range source.Intn(4) {
		s.Perm = append(s.Perm, []int{none, readable, writable, writable, writable, writable, code, code}[source.Intn(8)])
	}
	source.Shuffle(len(s.Perm), func(i, j int) { s.Perm[i], s.Perm[j] = s.Perm[j], s.Perm[i] })
	s.Bytes = make([]byte, pageSize*len(s.Perm))
	for i := range s.Bytes {
		s.Bytes[i] = byte(source.Intn(256))
	}
	for page, perm := range s.Perm {
		if perm == code {
			copy(s.Bytes[pageSize*page:pageSize*(page+1)], randomCode(source))
		}
	}
	return s
}

// randomCode returns the encodings of instructions, at least as many bytes as a page has.
func randomCode(source *rand.Rand) []byte {
	var b []byte
	for len(b) < pageSize {
		if source.Intn(30) == 0 {
			b = append(b, byte(source.Intn(256)))
			continue
		}
		more, _ := insn.Encode(randomInstruction(source))
		b = append(b, more...)
	}
	return b
}

// randomCodeAddress returns an address that mostly is that of an instruction, if there is a code page.
func randomCodeAddress(source *rand.Rand, s api.Space) int64 {
	page := slices.Index(s.Perm, code)
	if page < 0 || source.Intn(20) == 0 {
		return randomRegister(source, s)
	}
	at := pageSize*page + source.Intn(pageSize)
	for at%pageSize > 0 && s.Bytes[at] < 128 && source.Intn(20) > 0 {
		at--
	}
	return int64(at)
}

// The functions of package cpu, with their results as values that can be compared.

type truth struct {
	is bool
	e  api.Errno
}

func taken(x api.Insn, r api.Regs) truth {
	is, e := cpu.Taken(x, r)
	return truth{is, e}
}

type number struct {
	v  int64
	is bool
	e  api.Errno
}

func alu(op int, a, b int64) number {
	v, is, e := cpu.Alu(op, a, b)
	return number{v, is, e}
}
