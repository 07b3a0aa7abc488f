package tests

import (
	"slices"
	"strconv"
	"strings"
	"testing"

	"loop.example/g00664/impl"
)

// chapterTouches is what operations do: with Dst, with Src, with memory beside these (r reads it, w writes it), and which registers they write without a name.
const chapterTouches = `
add or adc sbb and sub xor | rw | r | - | -
cmp test | r | r | - | -
mov movzx movsx cmov | w | r | - | -
not neg inc dec | rw | - | - | -
rol ror shl shr sar imul | rw | r | - | -
xchg | rw | rw | - | -
lea setcc | w | - | - | -
mul imul1 div idiv | - | r | - | 0 2
cwide | - | - | - | 0
csign | - | - | - | 2
stos | - | - | w | 7
movs | - | - | rw | 6 7
push call | - | r | w | 4
pop | w | - | r | 4
ret | - | - | r | 4
jmp | - | r | - | -
jcc nop hlt syscall int | - | - | - | -
`

type touching struct {
	dst, src, beside string
	regs             []int
}

// effects are the tests' own model of chapter 9.
type effects struct {
	t     *testing.T
	table map[string]touching
}

func newEffects(t *testing.T) effects {
	e := effects{t, map[string]touching{}}
	for _, row := range rowsOf(chapterTouches) {
		v := touching{dst: row[1], src: row[2], beside: row[3]}
		for _, word := range strings.Fields(strings.Trim(row[4], "-")) {
			reg, err := strconv.Atoi(word)
			if err != nil {
				t.Fatal("the tests' own table:", row)
			}
			v.regs = append(v.regs, reg)
		}
		for _, op := range strings.Fields(row[0]) {
			e.table[op] = v
		}
	}
	if len(e.table) != len(chapterOps) {
		t.Fatal("the tests' own table has operations", len(e.table))
	}
	return e
}

// wholeReg is the register from 0 to 15 that another one is a part of.
func wholeReg(reg int) int {
	if reg >= 16 {
		return reg - 16
	}
	return reg
}

// touch is what TouchOf is to tell of an instruction that is right.
func (e effects) touch(x impl.Instr) impl.Touch {
	op := chapterOps[x.Op-1]
	v := e.table[op]
	ways, is := v.beside, [16]bool{}
	for _, reg := range v.regs {
		is[reg] = reg != 2 || x.Size > 1
	}
	for _, part := range []struct {
		operand impl.Operand
		ways    string
	}{{x.Dst, v.dst}, {x.Src, v.src}} {
		switch {
		case part.operand.Kind == impl.KindMem:
			ways += part.ways
		case part.operand.Kind == impl.KindReg && strings.Contains(part.ways, "w"):
			is[wholeReg(part.operand.Reg)] = true
		}
	}
	want := impl.Touch{Reads: strings.Contains(ways, "r"), Writes: strings.Contains(ways, "w"), Stack: slices.Contains(strings.Fields("push pop call ret"), op)}
	for reg, yes := range is {
		if yes {
			want.Regs = append(want.Regs, reg)
		}
	}
	return want
}

func sameTouch(a, b impl.Touch) bool {
	return slices.Equal(a.Regs, b.Regs) && a.Reads == b.Reads && a.Writes == b.Writes && a.Stack == b.Stack
}

// checkTouch asks what an instruction touches, and of each register.
func checkTouch(t *testing.T, x impl.Instr, want impl.Touch) {
	t.Helper()
	if got, code := impl.TouchOf(x); !sameTouch(got, want) || code != impl.OK {
		t.Errorf("TouchOf(%s %+v) = %+v, %d, want %+v", impl.OpName(x.Op), x, got, code, want)
	}
	for reg := range 16 {
		if yes, code := impl.WritesReg(x, reg); yes != slices.Contains(want.Regs, reg) || code != impl.OK {
			t.Errorf("WritesReg(%s %+v, %d) = %v, %d", impl.OpName(x.Op), x, reg, yes, code)
		}
	}
}

// checkMemoryOf and the others ask each call for what it is to tell; where yes is false that is nothing.
func checkMemoryOf(t *testing.T, x impl.Instr, want impl.Operand, yes bool) {
	t.Helper()
	if got, is, code := impl.MemoryOf(x); got != want || is != yes || code != impl.OK {
		t.Errorf("MemoryOf(%+v) = %+v, %v, %d, want %+v, %v", x, got, is, code, want, yes)
	}
}

func checkMaskOf(t *testing.T, x impl.Instr, reg, mask int, yes bool) {
	t.Helper()
	if r, n, is, code := impl.MaskOf(x); r != reg || n != mask || is != yes || code != impl.OK {
		t.Errorf("MaskOf(%+v) = %d, %d, %v, %d, want %d, %d, %v", x, r, n, is, code, reg, mask, yes)
	}
}

func checkBaseAddOf(t *testing.T, x impl.Instr, reg int, yes bool) {
	t.Helper()
	if r, is, code := impl.BaseAddOf(x); r != reg || is != yes || code != impl.OK {
		t.Errorf("BaseAddOf(%+v) = %d, %v, %d, want %d, %v", x, r, is, code, reg, yes)
	}
}

func checkGoalOf(t *testing.T, x impl.Instr, at, goal int, yes bool) {
	t.Helper()
	if g, is, code := impl.GoalOf(x, at); g != goal || is != yes || code != impl.OK {
		t.Errorf("GoalOf(%+v, %d) = %d, %v, %d, want %d, %v", x, at, g, is, code, goal, yes)
	}
}

func checkThroughOf(t *testing.T, x impl.Instr, want impl.Operand, yes bool) {
	t.Helper()
	if got, is, code := impl.ThroughOf(x); got != want || is != yes || code != impl.OK {
		t.Errorf("ThroughOf(%+v) = %+v, %v, %d, want %+v, %v", x, got, is, code, want, yes)
	}
}

// check asks all calls of an instruction that is right, which stands at a place, and tells which of them have something to tell.
func (e effects) check(x impl.Instr, at int) map[string]bool {
	e.t.Helper()
	op, kinds := chapterOps[x.Op-1], kindsOf(x)
	checkTouch(e.t, x, e.touch(x))
	told := map[string]bool{
		"memory":  strings.Contains(kinds, "m") && op != "lea",
		"mask":    op == "and" && x.Size == 4 && kinds == "ri",
		"base":    op == "add" && x.Size == 8 && kinds == "rr" && x.Src.Reg == 15,
		"goal":    slices.Contains(strings.Fields("call jmp jcc"), op) && kinds == "-i",
		"through": slices.Contains(strings.Fields("call jmp"), op) && kinds != "-i",
	}
	var none, place, through impl.Operand
	if told["memory"] {
		place = [2]impl.Operand{x.Dst, x.Src}[strings.Index(kinds, "m")]
	}
	if told["through"] {
		through = x.Src
	}
	checkMemoryOf(e.t, x, place, place != none)
	checkThroughOf(e.t, x, through, through != none)
	if told["mask"] {
		checkMaskOf(e.t, x, x.Dst.Reg, x.Src.Imm, true)
	} else {
		checkMaskOf(e.t, x, 0, 0, false)
	}
	if told["base"] {
		checkBaseAddOf(e.t, x, x.Dst.Reg, true)
	} else {
		checkBaseAddOf(e.t, x, 0, false)
	}
	if told["goal"] {
		checkGoalOf(e.t, x, at, x.Src.Imm+x.Len+at, true)
	} else {
		checkGoalOf(e.t, x, at, 0, false)
	}
	return told
}
