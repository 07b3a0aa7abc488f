package tests

import (
	"math"
	"slices"
	"strconv"
	"strings"
	"testing"

	"loop.example/g00664/impl"
)

// chapterOps are the operations of chapter 4, from 1 on.
var chapterOps = strings.Fields("add or adc sbb and sub xor cmp mov test not neg mul imul1 div idiv imul inc dec rol ror shl shr sar lea movzx movsx xchg " +
	"push pop call jmp jcc ret setcc cmov nop hlt cwide csign stos movs syscall int")

// chapterForms are the forms of chapter 4, from 1 on.
var chapterForms = strings.Fields("FoRmReg FoRegRm FoAccImm FoRmImm8 FoRmImm FoRm FoReg FoRegImm FoRel8 FoRel32 FoShiftImm FoShiftOne FoShiftCl FoNone FoImm8 FoImm32 FoRegRmX")

// chapterConds are the conditions of chapter 4, from 0 on.
var chapterConds = strings.Fields("o no b ae e ne be a s ns p np l ge le g")

// chapterRegs are the registers of chapter 4, from 0 on, by their size.
var chapterRegs = map[int][]string{
	8: strings.Fields("rax rcx rdx rbx rsp rbp rsi rdi r8 r9 r10 r11 r12 r13 r14 r15"),
	4: strings.Fields("eax ecx edx ebx esp ebp esi edi r8d r9d r10d r11d r12d r13d r14d r15d"),
	2: strings.Fields("ax cx dx bx sp bp si di r8w r9w r10w r11w r12w r13w r14w r15w"),
	1: strings.Fields("al cl dl bl spl bpl sil dil r8b r9b r10b r11b r12b r13b r14b r15b ah ch dh bh"),
}

// chapterFirst is the table of one byte: the first and the last byte, an operation or the digit of a group, a form, and perhaps byte or a From.
const chapterFirst = `
80 87 push FoReg
88 95 pop FoReg
99 99 movsx FoRegRmX 4
104 104 push FoImm32
106 106 push FoImm8
112 127 jcc FoRel8
128 128 1 FoRmImm byte
129 129 1 FoRmImm
131 131 1 FoRmImm8
132 132 test FoRmReg byte
133 133 test FoRmReg
134 134 xchg FoRmReg byte
135 135 xchg FoRmReg
136 136 mov FoRmReg byte
137 137 mov FoRmReg
138 138 mov FoRegRm byte
139 139 mov FoRegRm
141 141 lea FoRegRm
143 143 6 FoRm
144 144 nop FoNone
152 152 cwide FoNone
153 153 csign FoNone
195 195 ret FoNone
244 244 hlt FoNone
164 164 movs FoNone byte
170 170 stos FoNone byte
168 168 test FoAccImm byte
169 169 test FoAccImm
176 183 mov FoRegImm byte
184 191 mov FoRegImm
192 192 2 FoShiftImm byte
193 193 2 FoShiftImm
208 208 2 FoShiftOne byte
209 209 2 FoShiftOne
210 210 2 FoShiftCl byte
211 211 2 FoShiftCl
198 198 7 FoRmImm byte
199 199 7 FoRmImm
205 205 int FoImm8
232 232 call FoRel32
233 233 jmp FoRel32
235 235 jmp FoRel8
246 246 3 FoRm byte
247 247 3 FoRm
254 254 4 FoRm byte
255 255 5 FoRm
`

// chapterArith is what the table of one byte has at each of the first eight operations.
var chapterArith = strings.Split("FoRmReg byte,FoRmReg,FoRegRm byte,FoRegRm,FoAccImm byte,FoAccImm", ",")

// chapterSecond is the table behind a byte 15.
const chapterSecond = `
5 5 syscall FoNone
64 79 cmov FoRegRm
128 143 jcc FoRel32
144 159 setcc FoRm byte
175 175 imul FoRegRm
182 182 movzx FoRegRmX 1
183 183 movzx FoRegRmX 2
190 190 movsx FoRegRmX 1
191 191 movsx FoRegRmX 2
`

// chapterGroups are the operations of the digits of each group, from 1 on; - is none.
var chapterGroups = []string{
	"add or adc sbb and sub xor cmp",
	"rol ror - - shl shr - sar",
	"test - not neg mul imul1 div idiv",
	"inc dec - - - - - -",
	"inc dec call - jmp - push -",
	"pop - - - - - - -",
	"mov - - - - - - -",
}

var farNumbers = []int{-1 << 32, 1 << 32, 1<<32 + 1, math.MinInt, math.MinInt + 1, math.MaxInt, math.MaxInt - 1}

// numberIn is where a word stands in a list, counted from first on.
func numberIn(t *testing.T, list []string, word string, first int) int {
	at := slices.Index(list, word)
	if at < 0 {
		t.Fatalf("the tests' own tables have no %q", word)
	}
	return first + at
}

// shapeOfWords reads an operation or a group, a form, and what stands behind them.
func shapeOfWords(t *testing.T, words []string) impl.Shape {
	var shape impl.Shape
	if group, err := strconv.Atoi(words[0]); err == nil {
		shape.Group = group
	} else {
		shape.Op = numberIn(t, chapterOps, words[0], 1)
	}
	shape.Form = numberIn(t, chapterForms, words[1], 1)
	for _, w := range words[2:] {
		if w == "byte" {
			shape.Byte = true
		} else {
			shape.From, _ = strconv.Atoi(w)
		}
	}
	return shape
}

// chapterShapes are the shapes of the bytes of one of the two tables.
func chapterShapes(t *testing.T, second bool) map[int]impl.Shape {
	shapes := map[int]impl.Shape{}
	table := chapterFirst
	if second {
		table = chapterSecond
	} else {
		for k := range 8 {
			for i, row := range chapterArith {
				shapes[8*k+i] = shapeOfWords(t, strings.Fields(chapterOps[k]+" "+row))
			}
		}
	}
	for _, line := range strings.Split(strings.TrimSpace(table), "\n") {
		words := strings.Fields(line)
		first, _ := strconv.Atoi(words[0])
		last, _ := strconv.Atoi(words[1])
		for b := first; b <= last; b++ {
			if _, twice := shapes[b]; twice {
				t.Fatal("the tests' own table has a byte twice", b)
			}
			shapes[b] = shapeOfWords(t, words[2:])
		}
	}
	return shapes
}

func TestNumbersOfOperations(t *testing.T) {
	ops := []int{impl.OpAdd, impl.OpOr, impl.OpAdc, impl.OpSbb, impl.OpAnd, impl.OpSub, impl.OpXor, impl.OpCmp, impl.OpMov, impl.OpTest, impl.OpNot, impl.OpNeg,
		impl.OpMul, impl.OpImul1, impl.OpDiv, impl.OpIdiv, impl.OpImul, impl.OpInc, impl.OpDec, impl.OpRol, impl.OpRor, impl.OpShl, impl.OpShr, impl.OpSar,
		impl.OpLea, impl.OpMovzx, impl.OpMovsx, impl.OpXchg, impl.OpPush, impl.OpPop, impl.OpCall, impl.OpJmp, impl.OpJcc, impl.OpRet, impl.OpSetcc, impl.OpCmov,
		impl.OpNop, impl.OpHlt, impl.OpCwide, impl.OpCsign, impl.OpStos, impl.OpMovs, impl.OpSyscall, impl.OpInt}
	forms := []int{impl.FoRmReg, impl.FoRegRm, impl.FoAccImm, impl.FoRmImm8, impl.FoRmImm, impl.FoRm, impl.FoReg, impl.FoRegImm, impl.FoRel8, impl.FoRel32,
		impl.FoShiftImm, impl.FoShiftOne, impl.FoShiftCl, impl.FoNone, impl.FoImm8, impl.FoImm32, impl.FoRegRmX}
	classes := []int{impl.ClSafe, impl.ClFlow, impl.ClUnsafe}
	if len(ops) != 44 || len(forms) != 17 || len(chapterOps) != 44 || len(chapterForms) != 17 {
		t.Fatal(len(ops), len(forms), len(chapterOps), len(chapterForms))
	}
	for _, list := range [][]int{ops, forms, classes} {
		for i, n := range list {
			if n != i+1 {
				t.Errorf("a constant is %d, want %d", n, i+1)
			}
		}
	}
}

// TestShapes asks of every byte of both tables; those beside the rows are no operation.
func TestShapes(t *testing.T) {
	for _, v := range []struct {
		second bool
		many   int
	}{{false, 137}, {true, 54}} {
		shapes := chapterShapes(t, v.second)
		if len(shapes) != v.many {
			t.Fatal("the tests' own table", v.second, len(shapes))
		}
		for b := range 256 {
			want, there := shapes[b]
			code := impl.OK
			if !there {
				code = impl.ErrOpcode
			}
			if got, c := impl.ShapeOf(v.second, b); got != want || c != code {
				t.Errorf("ShapeOf(%v, %d) = %+v, %d, want %+v, %d", v.second, b, got, c, want, code)
			}
		}
	}
}

// TestBytesThatAreNoOperation names bytes that stand beside rows, the prefixes, and the byte 15 itself.
func TestBytesThatAreNoOperation(t *testing.T) {
	first := []int{6, 7, 14, 15, 22, 23, 30, 31, 38, 39, 46, 47, 54, 55, 62, 63, 64, 72, 79, 96, 98, 100, 101, 102, 103, 105, 107, 111, 130, 140, 142, 145, 151, 154,
		163, 165, 167, 171, 175, 194, 196, 197, 200, 204, 206, 207, 212, 231, 234, 236, 240, 242, 243, 245, 248, 253}
	second := []int{0, 4, 6, 11, 15, 31, 63, 80, 127, 160, 162, 174, 176, 181, 184, 189, 192, 255}
	for _, v := range []struct {
		second bool
		bytes  []int
	}{{false, first}, {true, second}} {
		for _, b := range v.bytes {
			if got, code := impl.ShapeOf(v.second, b); got != (impl.Shape{}) || code != impl.ErrOpcode {
				t.Errorf("ShapeOf(%v, %d) = %+v, %d", v.second, b, got, code)
			}
		}
	}
}

func TestShapesOfWhatIsNoByte(t *testing.T) {
	for _, b := range append([]int{-1, 256, -256, -255, 257, 256 + 144, 512, 65536}, farNumbers...) {
		for _, second := range []bool{false, true} {
			if got, code := impl.ShapeOf(second, b); got != (impl.Shape{}) || code != impl.ErrRange {
				t.Errorf("ShapeOf(%v, %d) = %+v, %d", second, b, got, code)
			}
		}
	}
}

func TestGroups(t *testing.T) {
	for i, row := range chapterGroups {
		words := strings.Fields(row)
		if len(words) != 8 {
			t.Fatal("the tests' own group", i)
		}
		for digit, w := range words {
			want, code := 0, impl.ErrOpcode
			if w != "-" {
				want, code = numberIn(t, chapterOps, w, 1), impl.OK
			}
			if got, c := impl.GroupOp(i+1, digit); got != want || c != code {
				t.Errorf("GroupOp(%d, %d) = %d, %d, want %d, %d", i+1, digit, got, c, want, code)
			}
		}
	}
}

func TestGroupsAndDigitsThatAreNone(t *testing.T) {
	wrong := append([]int{-1, 8, -8, 9, 16, 256}, farNumbers...)
	for _, group := range append([]int{0}, wrong...) {
		for _, digit := range append([]int{0, 1, 7}, wrong...) {
			if op, code := impl.GroupOp(group, digit); op != 0 || code != impl.ErrRange {
				t.Errorf("GroupOp(%d, %d) = %d, %d", group, digit, op, code)
			}
		}
	}
	for group := 1; group <= 7; group++ {
		for _, digit := range wrong {
			if op, code := impl.GroupOp(group, digit); op != 0 || code != impl.ErrRange {
				t.Errorf("GroupOp(%d, %d) = %d, %d", group, digit, op, code)
			}
		}
	}
}

// TestShapesAndGroupsFit holds for all shapes: there is either an operation or a group that has one.
func TestShapesAndGroupsFit(t *testing.T) {
	for b := range 256 {
		for _, second := range []bool{false, true} {
			shape, code := impl.ShapeOf(second, b)
			if code != impl.OK {
				continue
			}
			if (shape.Op == 0) == (shape.Group == 0) || shape.Form < impl.FoRmReg || shape.Form > impl.FoRegRmX || (shape.From != 0) != (shape.Form == impl.FoRegRmX) {
				t.Errorf("ShapeOf(%v, %d) = %+v", second, b, shape)
			}
			if _, code := impl.GroupOp(shape.Group, 0); shape.Group != 0 && code != impl.OK {
				t.Errorf("group %d of byte %d has the code %d", shape.Group, b, code)
			}
		}
	}
}

func TestClasses(t *testing.T) {
	classes := map[string]int{"call": 2, "jmp": 2, "jcc": 2, "ret": 3, "stos": 3, "movs": 3, "syscall": 3, "int": 3}
	for i, name := range chapterOps {
		want := 1
		if n, there := classes[name]; there {
			want = n
		}
		if got, code := impl.ClassOf(i + 1); got != want || code != impl.OK {
			t.Errorf("ClassOf of %s = %d, %d, want %d", name, got, code, want)
		}
	}
}

func TestOperationsThatAreNone(t *testing.T) {
	for _, op := range append([]int{0, 45, -1, 46, -44, 255, 256, 257}, farNumbers...) {
		if got, code := impl.ClassOf(op); got != 0 || code != impl.ErrRange {
			t.Errorf("ClassOf(%d) = %d, %d", op, got, code)
		}
		if got := impl.OpName(op); got != "" {
			t.Errorf("OpName(%d) = %q", op, got)
		}
	}
}

// TestOperationsAreReadBack holds for P4.
func TestOperationsAreReadBack(t *testing.T) {
	for i, name := range chapterOps {
		if got := impl.OpName(i + 1); got != name {
			t.Errorf("OpName(%d) = %q, want %q", i+1, got, name)
		}
		if got := impl.OpOf(name); got != i+1 {
			t.Errorf("OpOf(%q) = %d, want %d", name, got, i+1)
		}
	}
}

// TestConditionsAreReadBack holds for P4.
func TestConditionsAreReadBack(t *testing.T) {
	if len(chapterConds) != 16 {
		t.Fatal(len(chapterConds))
	}
	for i, name := range chapterConds {
		if got := impl.CondName(i); got != name {
			t.Errorf("CondName(%d) = %q, want %q", i, got, name)
		}
		if got := impl.CondOf(name); got != i {
			t.Errorf("CondOf(%q) = %d, want %d", name, got, i)
		}
	}
	for _, cond := range append([]int{-1, 16, -16, 17, 255, 256}, farNumbers...) {
		if got := impl.CondName(cond); got != "" {
			t.Errorf("CondName(%d) = %q", cond, got)
		}
	}
}

// TestRegistersAreReadBack holds for P4.
func TestRegistersAreReadBack(t *testing.T) {
	for _, size := range sizes {
		names := chapterRegs[size]
		if want := map[int]int{1: 20, 2: 16, 4: 16, 8: 16}[size]; len(names) != want {
			t.Fatal(size, len(names))
		}
		for reg, name := range names {
			if got := impl.RegName(reg, size); got != name {
				t.Errorf("RegName(%d, %d) = %q, want %q", reg, size, got, name)
			}
			if r, s, code := impl.RegOf(name); r != reg || s != size || code != impl.OK {
				t.Errorf("RegOf(%q) = %d, %d, %d, want %d, %d", name, r, s, code, reg, size)
			}
		}
	}
}

func TestRegistersThatAreNone(t *testing.T) {
	wrong := append([]int{-1, 20, -16, 21, 32, 255, 256}, farNumbers...)
	for _, size := range sizes {
		regs := wrong
		if size != 1 {
			regs = append([]int{16, 17, 18, 19}, wrong...)
		}
		for _, reg := range regs {
			if got := impl.RegName(reg, size); got != "" {
				t.Errorf("RegName(%d, %d) = %q", reg, size, got)
			}
		}
	}
	for _, size := range noSizes {
		for _, reg := range append([]int{0, 1, 15, 16, 19}, wrong...) {
			if got := impl.RegName(reg, size); got != "" {
				t.Errorf("RegName(%d, %d) = %q", reg, size, got)
			}
		}
	}
}

// chapterNames are the names of all three tables.
func chapterNames() []string {
	names := slices.Concat(chapterOps, chapterConds)
	for _, size := range sizes {
		names = append(names, chapterRegs[size]...)
	}
	return names
}

// checkName asks all three tables of a text of at most MaxText bytes.
func checkName(t *testing.T, text string) {
	if got, want := impl.OpOf(text), slices.Index(chapterOps, text)+1; got != want {
		t.Errorf("OpOf(%.20q) of %d bytes = %d, want %d", text, len(text), got, want)
	}
	if got, want := impl.CondOf(text), slices.Index(chapterConds, text); got != want {
		t.Errorf("CondOf(%.20q) of %d bytes = %d, want %d", text, len(text), got, want)
	}
	wantReg, wantSize, wantCode := 0, 0, impl.ErrForm
	for size, names := range chapterRegs {
		if reg := slices.Index(names, text); reg >= 0 {
			wantReg, wantSize, wantCode = reg, size, impl.OK
		}
	}
	if reg, size, code := impl.RegOf(text); reg != wantReg || size != wantSize || code != wantCode {
		t.Errorf("RegOf(%.20q) of %d bytes = %d, %d, %d, want %d, %d, %d", text, len(text), reg, size, code, wantReg, wantSize, wantCode)
	}
}

// TestTextsLikeNames asks for texts that come near to names; a name of one table is none of another.
func TestTextsLikeNames(t *testing.T) {
	checkName(t, "")
	for _, name := range chapterNames() {
		checkName(t, name)
		for i := range name {
			checkName(t, name[:i])
			checkName(t, name[i:])
			checkName(t, name[:i]+strings.ToUpper(name[i:i+1])+name[i+1:])
		}
		for _, text := range []string{strings.ToUpper(name), " " + name, name + " ", "\t" + name, name + "\n", name + "\x00", "\x00" + name, name + name, name + "x", "x" + name, "Op" + name, "%" + name, name + "1"} {
			checkName(t, text)
		}
	}
	for _, text := range []string{" ", "0", "-1", "r", "r0", "r00", "r7", "r7d", "r08", "r16", "r16d", "r8l", "r1", "r1b", "r150", "rip", "eip", "ip", "spx", "sph", "bph", "sih", "dih", "r8h", "z", "nz", "c", "nc", "jo", "je", "sete", "cmove", "imul2", "none", "\xff"} {
		checkName(t, text)
	}
	for _, c := range chapterCodes {
		checkName(t, c.word)
	}
}

// TestShortTexts asks for every text of at most three small letters and digits.
func TestShortTexts(t *testing.T) {
	const signs = "abcdefghijklmnopqrstuvwxyz0123456789"
	for _, a := range signs {
		checkName(t, string(a))
		for _, b := range signs {
			checkName(t, string(a)+string(b))
			for _, c := range signs {
				checkName(t, string(a)+string(b)+string(c))
			}
		}
	}
}

// TestLongNames holds for rule 8: RegOf, which has a code, tells ErrLong; the others answer however long the name is.
func TestLongNames(t *testing.T) {
	for _, begin := range []string{"", "add", "int", "o", "g", "rax", "r15d", "bh"} {
		for _, fill := range []string{" ", "a", "\x00"} {
			long := begin + strings.Repeat(fill, impl.MaxText+1-len(begin))
			checkName(t, long[:impl.MaxText])
			checkName(t, long[1:])
			for _, text := range []string{long, long + long} {
				if op, cond := impl.OpOf(text), impl.CondOf(text); op != 0 || cond != -1 {
					t.Errorf("a name of %d bytes is %d, %d", len(text), op, cond)
				}
				if reg, size, code := impl.RegOf(text); reg != 0 || size != 0 || code != impl.ErrLong {
					t.Errorf("RegOf of %d bytes = %d, %d, %d", len(text), reg, size, code)
				}
			}
		}
	}
}
