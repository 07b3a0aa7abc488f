package tests

import (
	"math/rand"
	"slices"
	"strings"
	"testing"

	"loop.example/g00664/impl"
)

// A stepCase is what stands at Rip, told by its digits, and what StepCpu says of it.
type stepCase struct {
	rip    int
	digits string
	size   int
	code   int
}

// TestStepsThatFetchNothing: bytes that may not be run, or are none, or are no instruction, or are cut off by a page that may not be run; the one access has Size 1.
func TestStepsThatFetchNothing(t *testing.T) {
	for _, v := range []stepCase{
		{2048, "", 1, impl.ErrFetch},
		{-1, "", 1, impl.ErrFetch},
		{1 << 40, "", 1, impl.ErrFetch},
		{handData, "90", 1, impl.ErrFetch},
		{handRead, "90", 1, impl.ErrFetch},
		{handWrite, "90", 1, impl.ErrFetch},
		{767, "90", 1, impl.OK},
		{767, "0f", 1, impl.ErrEnd},
		{767, "66", 1, impl.ErrEnd},
		{767, "48", 1, impl.ErrEnd},
		{766, "48 89", 1, impl.ErrEnd},
		{765, "48 89 d8", 3, impl.OK},
		{764, "b8 01 02 03", 1, impl.ErrEnd},
		{763, "b8 01 02 03 04", 5, impl.OK},
		{600, "66 66 90", 1, impl.ErrPrefix},
		{600, "f0 90", 1, impl.ErrPrefix},
		{600, "66 50", 1, impl.ErrPrefix},
		{767, "f3", 1, impl.ErrPrefix},
		{600, "0f 0b", 1, impl.ErrOpcode},
		{600, "06", 1, impl.ErrOpcode},
		{600, "8f c8", 1, impl.ErrOpcode},
		{767, "d6", 1, impl.ErrOpcode},
		{600, "8d c0", 1, impl.ErrOperand},
		{600, "48 8d c0", 1, impl.ErrOperand},
		{512, "90", 1, impl.OK},
		{600, "f4", 1, impl.ErrHalt},
		{600, "0f 05", 2, impl.ErrTrap},
		{600, "cd 80", 2, impl.ErrTrap},
	} {
		m := handMemory()
		if text := bytesOf(t, v.digits); text != "" {
			m = laidByHand(m, v.rip, text)
		}
		c := fullCpu()
		c.Rip = v.rip
		got := checkStep(t, c, m)
		if got.code != v.code || !slices.Equal(got.told, accesses(runOf(v.rip, v.size))) {
			t.Errorf("StepCpu of %s at %d: %s", v.digits, v.rip, got.short())
		}
		if v.code != impl.OK && (got.cpu != c || !alike(got.memory, m)) {
			t.Errorf("StepCpu of %s at %d changes something", v.digits, v.rip)
		}
		checkRun(t, c, m, 1)
	}
}

// TestStepsByPerm: an instruction over the end of a page is there if both pages may be run; what else they allow does not count.
func TestStepsByPerm(t *testing.T) {
	for first := range 8 {
		for second := range 8 {
			m := laidByHand(memory(page(512, first), page(768, second)), 766, "\x48\x89\xd8")
			c := fullCpu()
			c.Rip = 766
			want := impl.OK
			switch {
			case first&4 == 0:
				want = impl.ErrFetch
			case second&4 == 0:
				want = impl.ErrEnd
			}
			if got := checkStep(t, c, m); got.code != want {
				t.Errorf("pages of Perm %d and %d: %s", first, second, got.short())
			}
		}
	}
}

// runModel is what RunCpu answers of n steps.
func runModel(c impl.Cpu, m impl.Memory, n int) (impl.Cpu, impl.Memory, int, int) {
	for done := range n {
		got := stepModel(c, m)
		if got.code != impl.OK {
			return c, m, done, got.code
		}
		c, m = got.cpu, got.memory
	}
	return c, m, n, impl.OK
}

// checkRun looks at RunCpu, and answers how many steps went, and the code.
func checkRun(t *testing.T, c impl.Cpu, m impl.Memory, n int) (int, int) {
	t.Helper()
	then, memory, steps, code := runModel(c, m, n)
	c2, m2, steps2, code2 := impl.RunCpu(c, m, n)
	if c2 != then || !alike(m2, memory) || steps2 != steps || code2 != code {
		t.Fatalf("RunCpu of %d: %+v, %d pages, %d, %d, want %+v, %d pages, %d, %d", n, c2, len(m2.Pages), steps2, code2, then, len(memory.Pages), steps, code)
	}
	return steps, code
}

// checkParts holds for P7: a run of a + b steps is one of a, then one of b; behind a fault there is no step.
func checkParts(t *testing.T, c impl.Cpu, m impl.Memory, a, b int) {
	t.Helper()
	whole, wholeMemory, steps, code := impl.RunCpu(c, m, a+b)
	c1, m1, steps1, code1 := impl.RunCpu(c, m, a)
	c2, m2, steps2, code2 := impl.RunCpu(c1, m1, b)
	if code1 != impl.OK {
		// The first part had the fault: there the other one has it at once, if it steps at all.
		if steps2 != 0 || c2 != c1 || !alike(m2, m1) || b > 0 && code2 != code1 || b == 0 && code2 != impl.OK {
			t.Fatalf("behind %d steps and code %d there are %d, and code %d", steps1, code1, steps2, code2)
		}
		code2 = code1
	}
	if whole != c2 || !alike(wholeMemory, m2) || steps != steps1+steps2 || code != code2 {
		t.Fatalf("%d and %d steps: %+v, %d and %d, %d; at once %+v, %d, %d", a, b, c2, steps1, steps2, code2, whole, steps, code)
	}
}

// A programLine is an instruction; where it has a goal, which is the number of a line, its Src leads there.
type programLine struct {
	x    impl.Instr
	goal int
}

func plain(x impl.Instr) programLine { return programLine{x, -1} }

// programText is the bytes of lines; those with a goal jump to it.
func programText(t *testing.T, lines []programLine) string {
	t.Helper()
	starts := []int{0}
	for _, line := range lines {
		text, _ := impl.Encode(line.x)
		starts = append(starts, starts[len(starts)-1]+len(text))
	}
	all := ""
	for i, line := range lines {
		if line.goal >= 0 {
			line.x.Src.Imm = starts[line.goal] - starts[i+1]
		}
		text, code := impl.Encode(line.x)
		if code != impl.OK || len(text) != starts[i+1]-starts[i] {
			t.Fatalf("the tests' own line cannot be encoded: %+v", line.x)
		}
		all += text
	}
	return all
}

// sumProgram adds up the numbers from 1 to register 1.
func sumProgram() []programLine {
	return []programLine{
		plain(pair(impl.OpXor, 4, ofReg(0), ofReg(0))),
		plain(pair(impl.OpAdd, 8, ofReg(0), ofReg(1))),
		plain(single(impl.OpDec, 8, ofReg(1))),
		{withCond("ne", source(impl.OpJcc, 0, ofNumber(0))), 1},
		plain(impl.Instr{Op: impl.OpHlt}),
	}
}

// productProgram multiplies the numbers from 1 to register 7, by calls that call themselves.
func productProgram() []programLine {
	return []programLine{
		{source(impl.OpCall, 8, ofNumber(0)), 2},
		plain(impl.Instr{Op: impl.OpHlt}),
		plain(pair(impl.OpCmp, 8, ofReg(7), ofNumber(1))),
		{withCond("le", source(impl.OpJcc, 0, ofNumber(0))), 10},
		plain(source(impl.OpPush, 8, ofReg(7))),
		plain(single(impl.OpDec, 8, ofReg(7))),
		{source(impl.OpCall, 8, ofNumber(0)), 2},
		plain(single(impl.OpPop, 8, ofReg(7))),
		plain(pair(impl.OpImul, 8, ofReg(0), ofReg(7))),
		plain(impl.Instr{Op: impl.OpRet}),
		plain(pair(impl.OpMov, 4, ofReg(0), ofNumber(1))),
		plain(impl.Instr{Op: impl.OpRet}),
	}
}

// copyProgram copies register 1 bytes from where register 6 points to, to where register 7 does.
func copyProgram() []programLine {
	return []programLine{
		plain(pair(impl.OpTest, 8, ofReg(1), ofReg(1))),
		{withCond("e", source(impl.OpJcc, 0, ofNumber(0))), 5},
		plain(impl.Instr{Op: impl.OpMovs, Size: 1}),
		plain(pair(impl.OpSub, 8, ofReg(1), ofNumber(1))),
		{source(impl.OpJmp, 8, ofNumber(0)), 0},
		plain(impl.Instr{Op: impl.OpSyscall}),
	}
}

func TestRunPrograms(t *testing.T) {
	for i, v := range []struct {
		lines     []programLine
		regs      map[int]int
		reg, want int
		steps     int
		code      int
	}{
		{sumProgram(), map[int]int{0: -5, 1: 10}, 0, 55, 31, impl.ErrHalt},
		{sumProgram(), map[int]int{1: 1}, 0, 1, 4, impl.ErrHalt},
		{sumProgram(), map[int]int{1: 166}, 0, 13861, 499, impl.ErrHalt},
		{sumProgram(), map[int]int{1: 167}, 0, 14028, 500, impl.OK},
		{productProgram(), map[int]int{4: 1500, 7: 5}, 0, 120, 37, impl.ErrHalt},
		{productProgram(), map[int]int{4: 1500, 7: 20}, 0, 2432902008176640000, 157, impl.ErrHalt},
		{productProgram(), map[int]int{4: 1500, 7: 1}, 4, 1500, 5, impl.ErrHalt},
		{productProgram(), map[int]int{4: 1048, 7: 5}, 4, 1024, 8, impl.ErrPage},
		{copyProgram(), map[int]int{1: 20, 6: 1030, 7: 1300}, 7, 1320, 102, impl.ErrTrap},
		{copyProgram(), map[int]int{1: 20, 6: 1030, 7: 1530}, 7, 1536, 32, impl.ErrPerm},
		{copyProgram(), map[int]int{1: 20, 6: 1780, 7: 1300}, 6, 1792, 62, impl.ErrPerm},
	} {
		m := laidByHand(handMemory(), 512, programText(t, v.lines))
		c := impl.Cpu{Rip: 512}
		for reg, n := range v.regs {
			c.Regs[reg] = n
		}
		then, _, steps, code := impl.RunCpu(c, m, impl.MaxSteps)
		if then.Regs[v.reg] != v.want || steps != v.steps || code != v.code {
			t.Errorf("program %d: register %d is %d, %d steps, %d, want %d, %d steps, %d", i, v.reg, then.Regs[v.reg], steps, code, v.want, v.steps, v.code)
		}
		for n := 0; n <= impl.MaxSteps; n += 1 + n/8 {
			checkRun(t, c, m, n)
		}
		for _, a := range []int{0, 1, 2, 3, 30, 31, 32, 33, 100, 250, 499, 500} {
			for _, b := range []int{0, 1, 2, 29, 70, 250, 500} {
				if a+b <= impl.MaxSteps {
					checkParts(t, c, m, a, b)
				}
			}
		}
	}
}

// TestCopied looks at what copyProgram leaves.
func TestCopied(t *testing.T) {
	m := laidByHand(handMemory(), 512, programText(t, copyProgram()))
	c := impl.Cpu{Rip: 512}
	c.Regs[1], c.Regs[6], c.Regs[7] = 20, 1030, 1270
	_, got, _, _ := impl.RunCpu(c, m, impl.MaxSteps)
	if want := laidByHand(m, 1270, pageData(1024)[6:26]); !alike(got, want) {
		t.Errorf("copied: %x", bytesByHand(got, 1270, 20))
	}
}

// TestProgramsThatChangeThemselves: each step reads what the ones ahead of it have stored.
func TestProgramsThatChangeThemselves(t *testing.T) {
	// mov byte [600], 0xf4; nop ..: what is stored at 600 stops the run there.
	text := programText(t, []programLine{plain(pair(impl.OpMov, 1, ofMemory(-1, -1, 1, 600), ofNumber(-12)))}) + strings.Repeat("\x90", 200)
	m := laidByHand(handMemory(), 512, text)
	first := 600 - 512 - (len(text) - 200)
	then, _, steps, code := impl.RunCpu(impl.Cpu{Rip: 512}, m, impl.MaxSteps)
	if then.Rip != 600 || steps != 1+first || code != impl.ErrHalt {
		t.Error(then.Rip, steps, code)
	}
	checkRun(t, impl.Cpu{Rip: 512}, m, 100)
	checkParts(t, impl.Cpu{Rip: 512}, m, 1, 99)
}

// TestRunsThatFault at their first step, and at a later one: what went ahead of it stays, and nothing of it does.
func TestRunsThatFault(t *testing.T) {
	push := plain(source(impl.OpPush, 8, ofNumber(7)))
	list := [][]programLine{{push, push, push, push}}
	for _, last := range []impl.Instr{{Op: impl.OpHlt}, {Op: impl.OpSyscall}, source(impl.OpInt, 0, ofNumber(1)), source(impl.OpDiv, 8, ofReg(0)), pair(impl.OpMov, 8, ofMemory(-1, -1, 1, handGap), ofReg(0)), pair(impl.OpXchg, 8, ofMemory(-1, -1, 1, handRead), ofReg(9)),
		source(impl.OpJmp, 8, ofNumber(100000)), source(impl.OpJmp, 8, ofNumber(500))} {
		list = append(list, []programLine{plain(last)}, []programLine{push, plain(last)}, []programLine{push, push, push, plain(last), push})
	}
	codes := map[int]int{}
	for _, lines := range list {
		m := laidByHand(handMemory(), 512, programText(t, lines)+"\xd6")
		c := impl.Cpu{Rip: 512}
		c.Regs[4] = 1200
		for n := range 8 {
			steps, code := checkRun(t, c, m, n)
			codes[code]++
			if steps > 5 {
				t.Error("steps", steps)
			}
			for a := range n + 1 {
				checkParts(t, c, m, a, n-a)
			}
		}
	}
	for _, code := range []int{impl.OK, impl.ErrHalt, impl.ErrTrap, impl.ErrDivide, impl.ErrPage, impl.ErrPerm, impl.ErrFetch, impl.ErrOpcode} {
		if codes[code] == 0 {
			t.Error("no run with the code", code)
		}
	}
}

// anyProgram has instructions that need no address in a register, and at last a jump back to its beginning.
func anyProgram(t *testing.T, random *rand.Rand, list []impl.Instr) string {
	var lines []programLine
	for range 3 + random.Intn(12) {
		lines = append(lines, plain(list[random.Intn(len(list))]))
	}
	// Jumps by a number go forward over one line.
	for i := range len(lines) - 2 {
		if x := lines[i].x; (x.Op == impl.OpJcc || x.Op == impl.OpJmp) && x.Src.Kind == impl.KindImm {
			lines[i].goal = i + 2
		}
	}
	return programText(t, append(lines, programLine{source(impl.OpJmp, 8, ofNumber(0)), 0}))
}

// steady are those of cpuInstrs that need no address in a register, do not end a run, and jump by a number alone.
func steady(list []impl.Instr) []impl.Instr {
	return slices.DeleteFunc(slices.Clone(list), func(x impl.Instr) bool {
		byReg := func(x impl.Operand) bool { return x.Kind == impl.KindMem && (x.Base != -1 || x.Index != -1) }
		ends := []int{impl.OpHlt, impl.OpSyscall, impl.OpInt, impl.OpRet, impl.OpCall, impl.OpStos, impl.OpMovs, impl.OpPush, impl.OpPop, impl.OpDiv, impl.OpIdiv}
		return slices.Contains(ends, x.Op) || byReg(x.Dst) && x.Op != impl.OpLea || byReg(x.Src) && x.Op != impl.OpLea || x.Op == impl.OpJmp && x.Src.Kind != impl.KindImm
	})
}

// TestAnyPrograms runs programs that go on and on, and bytes that follow no rule.
func TestAnyPrograms(t *testing.T) {
	random := rand.New(rand.NewSource(12))
	all := cpuInstrs(newEncodings(t))
	list := steady(all)
	long, short := 0, 0
	for i := range 400 {
		text := anyProgram(t, random, list)
		if i%4 == 3 {
			text = anyProgram(t, random, all)
		}
		if len(text) > 200 {
			continue
		}
		there := laidByHand(handMemory(), 512, text)
		c := anyCpu(random, 512)
		if steps, _ := checkRun(t, c, there, 120); steps == 120 {
			long++
		} else {
			short++
		}
		a := random.Intn(120)
		checkParts(t, c, there, a, 120-a)
		checkParts(t, c, there, random.Intn(8), random.Intn(8))
	}
	for range 300 {
		there := handMemory()
		there = laidByHand(there, 512, pageData(random.Int()))
		c := anyCpu(random, 512+random.Intn(256))
		checkRun(t, c, there, 20)
		checkParts(t, c, there, random.Intn(5), random.Intn(5))
	}
	if long < 150 || short < 30 {
		t.Error("long runs, and short ones:", long, short)
	}
}
