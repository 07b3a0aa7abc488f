package tests

import (
	"slices"
	"strings"
	"testing"

	"loop.example/g00664/impl"
)

// A draft is an instruction told by the parts of its bytes; it need not have all of them.
type draft struct {
	narrow bool
	rex    int // 0 without one
	second bool
	b      int
	modrm  int
	sib    int
	disp   int
	number int
}

// A drafting is the bytes of a draft, and what chapter 5 says that they are.
type drafting struct {
	draft
	text string
	x    impl.Instr
	code int
}

// bothShapes are the tables of operations, by whether they are the second one.
type bothShapes map[bool]map[int]impl.Shape

func shapesOfBoth(t *testing.T) bothShapes {
	return bothShapes{false: chapterShapes(t, false), true: chapterShapes(t, true)}
}

// The words of chapter 5.
var (
	morePrefixes   = []int{102, 38, 46, 54, 62, 100, 101, 103, 240, 242, 243}
	formsWithModRM = strings.Fields("FoRmReg FoRegRm FoRmImm8 FoRmImm FoRm FoShiftImm FoShiftOne FoShiftCl FoRegRmX")
	opsOfSize8     = strings.Fields("push pop call jmp")
	opsOfSize0     = strings.Fields("jcc ret nop hlt syscall int")
	opsWithCond    = strings.Fields("jcc setcc cmov")
	opsOfSrc       = strings.Fields("mul imul1 div idiv call jmp push")
)

// chapterOperands are the operands of each form, Dst first, in the words of drafting.operand; FoRm and FoReg differ by operation.
var chapterOperands = map[string]string{
	"FoRmReg":    "place register",
	"FoRegRm":    "register place",
	"FoRegRmX":   "register from",
	"FoAccImm":   "acc sized",
	"FoRmImm8":   "place byte",
	"FoRmImm":    "place sized",
	"FoRegImm":   "low whole",
	"FoRel8":     "- byte",
	"FoRel32":    "- four",
	"FoImm8":     "- byte",
	"FoImm32":    "- four",
	"FoShiftImm": "place count",
	"FoShiftOne": "place one",
	"FoShiftCl":  "place cl",
	"FoNone":     "- -",
}

func operandWords(form, op string) (string, string) {
	words := chapterOperands[form]
	switch {
	case form == "FoRm" && op == "test":
		words = "place sized"
	case form == "FoRm" && slices.Contains(opsOfSrc, op):
		words = "- place"
	case form == "FoRm":
		words = "place -"
	case form == "FoReg" && op == "push":
		words = "- low"
	case form == "FoReg":
		words = "low -"
	case op == "int":
		words = "- count"
	}
	dst, src, _ := strings.Cut(words, " ")
	return dst, src
}

func ofReg(reg int) impl.Operand { return impl.Operand{Kind: impl.KindReg, Reg: reg} }

func ofNumber(n int) impl.Operand { return impl.Operand{Kind: impl.KindImm, Imm: n} }

func ofMemory(base, index, scale, disp int) impl.Operand {
	return impl.Operand{Kind: impl.KindMem, Base: base, Index: index, Scale: scale, Disp: disp}
}

// isDraft tells whether a draft's byte of the operation would be read as that, and not as something that stands ahead of it.
func (d draft) isDraft() bool {
	if d.second {
		return true
	}
	return d.b != 15 && (d.rex != 0 || (d.b < 64 || d.b > 79) && (d.b != 102 || d.narrow))
}

func (d *drafting) lay(bytes ...int) {
	for _, b := range bytes {
		d.text += string([]byte{byte(b)})
	}
}

// layNumber lays the lowest bytes of n, and answers what they are with a sign.
func (d *drafting) layNumber(n, bytes int) int {
	for i := range bytes {
		d.lay(n >> (8 * i))
	}
	return n << (64 - 8*bytes) >> (64 - 8*bytes)
}

// rexBit is 8 with that bit of REX, 0 without.
func (d *drafting) rexBit(bit int) int { return d.rex >> bit & 1 * 8 }

func (d *drafting) regOf(reg, size int) impl.Operand {
	if size == 1 && d.rex == 0 {
		reg = [8]int{0, 1, 2, 3, 16, 17, 18, 19}[reg]
	}
	return ofReg(reg)
}

// memory lays SIB and Disp, and answers the place that they tell.
func (d *drafting) memory() impl.Operand {
	mod, rm := d.modrm>>6, d.modrm&7
	dispBytes := [3]int{0, 1, 4}[mod]
	base, index, scale := rm+d.rexBit(0), -1, 1
	switch rm {
	case 4:
		d.lay(d.sib)
		base = d.sib&7 + d.rexBit(0)
		if n := d.sib>>3&7 + d.rexBit(1); n != 4 {
			index, scale = n, [4]int{1, 2, 4, 8}[d.sib>>6]
		}
		if mod == 0 && d.sib&7 == 5 {
			base, dispBytes = -1, 4
		}
	case 5:
		if mod == 0 {
			base, dispBytes = 16, 4
		}
	}
	if dispBytes == 0 {
		return ofMemory(base, index, scale, 0)
	}
	return ofMemory(base, index, scale, d.layNumber(d.disp, dispBytes))
}

func (d *drafting) place(size int) impl.Operand {
	if d.modrm>>6 == 3 {
		return d.regOf(d.modrm&7+d.rexBit(0), size)
	}
	return d.memory()
}

func (d *drafting) operand(word string) impl.Operand {
	size := d.x.Size
	switch word {
	case "place":
		return d.place(size)
	case "from":
		return d.place(d.x.From)
	case "register":
		return d.regOf(d.modrm>>3&7+d.rexBit(2), size)
	case "low":
		return d.regOf(d.b&7+d.rexBit(0), size)
	case "acc":
		return ofReg(0)
	case "cl":
		return ofReg(1)
	case "one":
		return ofNumber(1)
	case "count":
		return ofNumber(d.layNumber(d.number, 1) & 255)
	case "byte":
		return ofNumber(d.layNumber(d.number, 1))
	case "four":
		return ofNumber(d.layNumber(d.number, 4))
	case "sized":
		return ofNumber(d.layNumber(d.number, map[int]int{1: 1, 2: 2, 4: 4, 8: 4}[size]))
	case "whole":
		return ofNumber(d.layNumber(d.number, size))
	}
	return impl.Operand{}
}

// layAhead lays prefixes and the operation's bytes.
func (d *drafting) layAhead() {
	if d.narrow {
		d.lay(102)
	}
	if d.rex != 0 {
		d.lay(d.rex)
	}
	if d.second {
		d.lay(15)
	}
	d.lay(d.b)
}

// sizeOf is the size, and whether a byte 102 may stand ahead.
func (d *drafting) sizeOf(op string, shape impl.Shape) (int, bool) {
	switch {
	case slices.Contains(opsOfSize8, op):
		return 8, false
	case slices.Contains(opsOfSize0, op):
		return 0, false
	case shape.Byte:
		return 1, false
	case d.rexBit(3) != 0:
		return 8, true
	case d.narrow:
		return 2, true
	}
	return 4, true
}

// layOperation lays the bytes up to ModRM; beside a code, up to the byte that tells it.
func (d *drafting) layOperation(shapes bothShapes) (string, impl.Shape, int) {
	d.layAhead()
	if d.rex == 0 && !d.second && slices.Contains(morePrefixes, d.b) {
		return "", impl.Shape{}, impl.ErrPrefix
	}
	shape, there := shapes[d.second][d.b]
	if !there {
		return "", shape, impl.ErrOpcode
	}
	if slices.Contains(formsWithModRM, chapterForms[shape.Form-1]) {
		d.lay(d.modrm)
	}
	if shape.Group == 0 {
		return chapterOps[shape.Op-1], shape, impl.OK
	}
	op := strings.Fields(chapterGroups[shape.Group-1])[d.modrm>>3&7]
	if op == "-" {
		return "", shape, impl.ErrOpcode
	}
	return op, shape, impl.OK
}

// checked is the code of an operation whose bytes up to ModRM are laid.
func (d *drafting) checked(op string, shape impl.Shape) int {
	size, narrowOK := d.sizeOf(op, shape)
	if d.narrow && !narrowOK || shape.From == 4 && size != 8 || shape.From == 1 && size == 1 || shape.From == 2 && size <= 2 {
		return impl.ErrPrefix
	}
	if op == "lea" && d.modrm >= 192 {
		return impl.ErrOperand
	}
	d.x.Size, d.x.From = size, shape.From
	return impl.OK
}

// drafted lays the whole instruction, or just as much as tells its code.
func (d draft) drafted(t *testing.T, shapes bothShapes) drafting {
	out := drafting{draft: d}
	op, shape, code := out.layOperation(shapes)
	if code == impl.OK {
		code = out.checked(op, shape)
	}
	if code != impl.OK {
		out.x, out.code = impl.Instr{}, code
		return out
	}
	out.x.Op = numberIn(t, chapterOps, op, 1)
	if slices.Contains(opsWithCond, op) {
		out.x.Cond = d.b % 16
	}
	dst, src := operandWords(chapterForms[shape.Form-1], op)
	out.x.Dst = out.operand(dst)
	out.x.Src = out.operand(src)
	out.x.Len = len(out.text)
	return out
}
