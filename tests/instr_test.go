package tests

import (
	"math"
	"slices"
	"strconv"
	"strings"
	"testing"

	"loop.example/g00664/impl"
)

// chapterPatterns is the table of InstrOK: operations, sizes, operands.
const chapterPatterns = `
add or adc sbb and sub xor cmp mov | 1 2 4 8 | rr mr rm ri mi
test | 1 2 4 8 | rr mr ri mi
xchg | 1 2 4 8 | rr mr
not neg inc dec | 1 2 4 8 | r- m-
mul imul1 div idiv | 1 2 4 8 | -r -m
imul cmov | 2 4 8 | rr rm
rol ror shl shr sar | 1 2 4 8 | rr mr ri mi
lea | 2 4 8 | rm
movzx movsx | 2 4 8 | rr rm
push call jmp | 8 | -r -m -i
pop | 8 | r- m-
jcc | 0 | -i
setcc | 1 | r- m-
cwide csign | 2 4 8 | --
stos movs | 1 | --
int | 0 | -i
ret nop hlt syscall | 0 | --
`

// chapterChoices is what Encode chooses: operations; their operands, or what else they have; the operation's byte, of size 1 if there are two, with 15 ahead in the second table;
// and what reg of ModRM is: Dst, Src, or a digit; low is a register in the operation's byte, - is none.
// Those of add to cmp count from 8k on, k being one less than the operation; that is their digit, too.
const chapterChoices = `
add or adc sbb and sub xor cmp | rr mr | 0 1 | Src
add or adc sbb and sub xor cmp | rm | 2 3 | Dst
mov | rr mr | 136 137 | Src
mov | rm | 138 139 | Dst
mov | ri mi | 198 199 | 0
mov | large | 184 | low
test | rr mr | 132 133 | Src
test | ri mi | 246 247 | 0
xchg | rr mr | 134 135 | Src
not | r- m- | 246 247 | 2
neg | r- m- | 246 247 | 3
mul | -r -m | 246 247 | 4
imul1 | -r -m | 246 247 | 5
div | -r -m | 246 247 | 6
idiv | -r -m | 246 247 | 7
inc | r- m- | 254 255 | 0
dec | r- m- | 254 255 | 1
imul | rr rm | 15+175 | Dst
cmov | rr rm | 15+64 | Dst
rol | ri mi | 192 193 | 0
ror | ri mi | 192 193 | 1
shl | ri mi | 192 193 | 4
shr | ri mi | 192 193 | 5
sar | ri mi | 192 193 | 7
rol | rr mr | 210 211 | 0
ror | rr mr | 210 211 | 1
shl | rr mr | 210 211 | 4
shr | rr mr | 210 211 | 5
sar | rr mr | 210 211 | 7
lea | rm | 141 | Dst
movzx | from1 | 15+182 | Dst
movzx | from2 | 15+183 | Dst
movsx | from1 | 15+190 | Dst
movsx | from2 | 15+191 | Dst
movsx | from4 | 99 | Dst
push | -r | 80 | low
push | -m | 255 | 6
push | small | 106 | -
push | -i | 104 | -
pop | r- | 88 | low
pop | m- | 143 | 0
call | -r -m | 255 | 2
call | -i | 232 | -
jmp | -r -m | 255 | 4
jmp | -i | 233 | -
jcc | -i | 15+128 | -
setcc | r- m- | 15+144 | 0
cwide | -- | 152 | -
csign | -- | 153 | -
stos | -- | 170 | -
movs | -- | 164 | -
int | -i | 205 | -
ret | -- | 195 | -
nop | -- | 144 | -
hlt | -- | 244 | -
syscall | -- | 15+5 | -
`

type chapterPattern struct {
	sizes []string
	kinds []string
}

type chapterChoice struct {
	second bool
	bytes  []int
	reg    string
}

// The tests' own encoder: it tells the parts of an instruction's bytes, which a draft lays, and reads back by chapter 5.
type encodings struct {
	t        *testing.T
	shapes   bothShapes
	patterns map[string]chapterPattern
	choices  map[string]chapterChoice
	taken    int
	refused  int
}

// rowsOf are the columns of a table's lines.
func rowsOf(table string) [][]string {
	var rows [][]string
	for _, line := range strings.Split(strings.TrimSpace(table), "\n") {
		rows = append(rows, strings.Split(line, " | "))
	}
	return rows
}

// addChoice lays down a row for one operation.
func (m *encodings) addChoice(op string, row []string, k int) {
	var c chapterChoice
	for _, word := range strings.Fields(row[2]) {
		digits, second := strings.CutPrefix(word, "15+")
		b, err := strconv.Atoi(digits)
		if err != nil {
			m.t.Fatal("the tests' own table:", row)
		}
		c.second = second
		c.bytes = append(c.bytes, b+8*k)
	}
	c.reg = row[3]
	for _, word := range strings.Fields(row[1]) {
		m.choices[op+" "+word] = c
	}
}

func newEncodings(t *testing.T) *encodings {
	m := &encodings{t: t, shapes: shapesOfBoth(t), patterns: map[string]chapterPattern{}, choices: map[string]chapterChoice{}}
	for _, row := range rowsOf(chapterPatterns) {
		for _, op := range strings.Fields(row[0]) {
			m.patterns[op] = chapterPattern{strings.Fields(row[1]), strings.Fields(row[2])}
		}
	}
	for _, row := range rowsOf(chapterChoices) {
		for k, op := range strings.Fields(row[0]) {
			m.addChoice(op, row, k)
		}
	}
	for k, op := range chapterOps[:8] {
		m.choices[op+" ri"] = chapterChoice{bytes: []int{128, 129}, reg: strconv.Itoa(k)}
		m.choices[op+" mi"] = m.choices[op+" ri"]
		m.choices[op+" small"] = chapterChoice{bytes: []int{131}, reg: strconv.Itoa(k)}
	}
	if len(m.patterns) != len(chapterOps) {
		t.Fatal("the tests' own table has operations", len(m.patterns))
	}
	return m
}

func (m *encodings) opName(op int) string {
	if op < 1 || op > len(chapterOps) {
		return ""
	}
	return chapterOps[op-1]
}

// kindsOf is the kinds of Dst and Src in the letters of chapter 6.
func kindsOf(x impl.Instr) string {
	letter := func(kind int) string {
		switch kind {
		case 0:
			return "-"
		case 1:
			return "r"
		case 2:
			return "m"
		case 3:
			return "i"
		}
		return "?"
	}
	return letter(x.Dst.Kind) + letter(x.Src.Kind)
}

func within(n, low, high int) bool { return low <= n && n <= high }

func mayBeCond(op string, x impl.Instr) bool {
	return x.Cond == 0 || slices.Contains(opsWithCond, op) && within(x.Cond, 1, 15)
}

func mayBeFrom(op string, x impl.Instr) bool {
	if op != "movzx" && op != "movsx" {
		return x.From == 0
	}
	return x.From == 1 || x.From == 2 && x.Size > 2 || x.From == 4 && x.Size == 8 && op == "movsx"
}

func isShiftWord(op string) bool { return slices.Contains(strings.Fields("rol ror shl shr sar"), op) }

func mayBeNumber(op string, x impl.Instr) bool {
	n := x.Src.Imm
	switch {
	case x.Src.Kind != impl.KindImm:
		return true
	case isShiftWord(op) || op == "int":
		return within(n, 0, 255)
	case x.Size == 1:
		return within(n, -128, 127)
	case x.Size == 2:
		return within(n, -32768, 32767)
	case op == "mov" && x.Size == 8 && x.Dst.Kind == impl.KindReg:
		return true
	}
	return within(n, math.MinInt32, math.MaxInt32)
}

// asking is whether an operand of a size asks for REX.
func asking(x impl.Operand, size int) bool {
	switch x.Kind {
	case impl.KindReg:
		return within(x.Reg, 8, 15) || size == 1 && within(x.Reg, 4, 7)
	case impl.KindMem:
		return within(x.Base, 8, 15) || within(x.Index, 8, 15)
	}
	return false
}

func isWideWord(op string, x impl.Instr) bool { return x.Size == 8 && !slices.Contains(opsOfSize8, op) }

func withRex(op string, x impl.Instr) bool {
	dst, src := operandSizes(x)
	return isWideWord(op, x) || asking(x.Dst, dst) || asking(x.Src, src)
}

// mayBe is what InstrOK is to tell.
func (m *encodings) mayBe(x impl.Instr) bool {
	op := m.opName(x.Op)
	p := m.patterns[op]
	dst, src := operandSizes(x)
	high := x.Dst.Kind == impl.KindReg && within(x.Dst.Reg, 16, 19) || x.Src.Kind == impl.KindReg && within(x.Src.Reg, 16, 19)
	return slices.Contains(p.sizes, strconv.Itoa(x.Size)) && slices.Contains(p.kinds, kindsOf(x)) && within(x.Len, 0, 15) &&
		impl.OperandOK(x.Dst, dst) && impl.OperandOK(x.Src, src) && mayBeCond(op, x) && mayBeFrom(op, x) && mayBeNumber(op, x) &&
		!(isShiftWord(op) && x.Src.Kind == impl.KindReg && x.Src.Reg != 1) && !(high && withRex(op, x))
}

// choiceWord is how the table of choices names what an instruction has.
func choiceWord(op string, x impl.Instr) string {
	number := x.Src.Kind == impl.KindImm
	small := within(x.Src.Imm, -128, 127)
	switch {
	case x.From != 0:
		return "from" + strconv.Itoa(x.From)
	case number && op == "push" && small, number && slices.Contains(chapterOps[:8], op) && x.Size > 1 && small:
		return "small"
	case number && op == "mov" && x.Size == 8 && !within(x.Src.Imm, math.MinInt32, math.MaxInt32):
		return "large"
	}
	return kindsOf(x)
}

// threeBits are a register's bits beside REX.
func threeBits(reg int) int { return [20]int{16: 4, 17: 5, 18: 6, 19: 7}[reg] | reg%16%8 }

// draftMemory tells ModRM without reg, and SIB.
func (d *draft) draftMemory(x impl.Operand) {
	d.disp = x.Disp
	noIndex := x.Index == -1
	index := 4
	if !noIndex {
		index = x.Index & 7
	}
	d.sib = map[int]int{1: 0, 2: 64, 4: 128, 8: 192}[x.Scale] + index*8
	switch {
	case x.Base == impl.RegRip:
		d.modrm = 5
		return
	case x.Base == -1:
		d.modrm = 4
		d.sib += 5
		return
	case x.Disp == 0 && x.Base != 5 && x.Base != 13:
	case within(x.Disp, -128, 127):
		d.modrm = 64
	default:
		d.modrm = 128
	}
	d.sib += x.Base & 7
	if noIndex && x.Base != 4 && x.Base != 12 {
		d.modrm += x.Base & 7
	} else {
		d.modrm += 4
	}
}

// draftOf tells the parts of an instruction that may be.
func (m *encodings) draftOf(x impl.Instr) draft {
	op := m.opName(x.Op)
	c, there := m.choices[op+" "+choiceWord(op, x)]
	if !there {
		m.t.Fatalf("the tests' own table has no %s %s", op, choiceWord(op, x))
	}
	d := draft{narrow: x.Size == 2, second: c.second, b: c.bytes[0] + x.Cond, number: x.Src.Imm}
	if x.Size != 1 {
		d.b = c.bytes[len(c.bytes)-1] + x.Cond
	}
	place, reg := x.Dst, 0
	if x.Dst.Kind == 0 {
		place = x.Src
	}
	switch c.reg {
	case "-":
	case "low":
		d.b += threeBits(place.Reg)
	case "Src":
		reg = x.Src.Reg
	case "Dst":
		place, reg = x.Src, x.Dst.Reg
	default:
		reg, _ = strconv.Atoi(c.reg)
	}
	if place.Kind == impl.KindMem {
		d.draftMemory(place)
	} else {
		d.modrm = 192 + threeBits(place.Reg)
	}
	d.modrm += 8 * threeBits(reg)
	if withRex(op, x) {
		d.rex = 64
		for bit, is := range []bool{within(place.Reg, 8, 15) || within(place.Base, 8, 15), within(place.Index, 8, 15), within(reg, 8, 15), isWideWord(op, x)} {
			if is {
				d.rex += 1 << bit
			}
		}
	}
	return d
}

// laid is the bytes that Encode is to give of an instruction that may be.
func (m *encodings) laid(x impl.Instr) string {
	d := m.draftOf(x).drafted(m.t, m.shapes)
	x.Len = len(d.text)
	if d.x != x || d.code != impl.OK {
		m.t.Fatalf("the tests' own bytes of %+v are % x, which are %+v, %d", x, d.text, d.x, d.code)
	}
	return d.text
}

// check asks of an instruction whether it can be encoded, and reads it back from its bytes, which stand between others.
func (m *encodings) check(x impl.Instr) {
	m.t.Helper()
	want, code := "", impl.ErrBad
	if m.mayBe(x) {
		want, code = m.laid(x), impl.OK
		m.taken++
	} else {
		m.refused++
	}
	if ok := impl.InstrOK(x); ok != (code == impl.OK) {
		m.t.Fatalf("InstrOK(%+v) = %v", x, ok)
	}
	if text, c := impl.Encode(x); text != want || c != code {
		m.t.Fatalf("Encode(%+v) = % x, %d, want % x, %d", x, text, c, want, code)
	}
	if code != impl.OK {
		return
	}
	x.Len = len(want)
	if y, c := impl.Decode("\x0f\x66"+want+"\x48\xff", 2); y != x || c != impl.OK {
		m.t.Fatalf("Decode of % x = %+v, %d, want %+v", want, y, c, x)
	}
	if yes, c := impl.IsCanonical("\x66"+want+"\x0f", 1); !yes || c != impl.OK {
		m.t.Fatalf("IsCanonical of % x = %v, %d", want, yes, c)
	}
}

// checkCounts looks that a sweep has had as many of both kinds as it is meant to.
func (m *encodings) checkCounts(taken, refused int) {
	m.t.Helper()
	if m.taken < taken || m.refused < refused {
		m.t.Errorf("the sweep has %d instructions and %d that are none", m.taken, m.refused)
	}
}
