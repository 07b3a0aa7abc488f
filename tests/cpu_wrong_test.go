package tests

import (
	"math"
	"slices"
	"testing"

	"loop.example/g00664/impl"
)

// wrongInstrs are instructions that cannot be encoded; each breaks another rule.
func wrongInstrs() []impl.Instr {
	nop, jump := impl.Instr{Op: impl.OpNop}, impl.Instr{Op: impl.OpJcc, Cond: 4, Src: ofNumber(5)}
	list := []impl.Instr{{}, {Op: -1}, {Op: 45}, {Op: math.MinInt}, {Op: math.MaxInt},
		pair(impl.OpAdd, 8, ofNumber(1), ofReg(1)), pair(impl.OpAdd, 8, at3, at3), pair(impl.OpAdd, 3, ofReg(0), ofReg(1)), pair(impl.OpAdd, 0, ofReg(0), ofReg(1)), pair(impl.OpAdd, -1, ofReg(0), ofReg(1)),
		pair(impl.OpAdd, 8, ofReg(-1), ofReg(1)), pair(impl.OpAdd, 8, ofReg(16), ofReg(1)), pair(impl.OpAdd, 1, ofReg(20), ofReg(1)), pair(impl.OpAdd, 1, ofReg(16), ofReg(9)), pair(impl.OpAdd, 8, ofReg(math.MinInt), ofReg(math.MaxInt)),
		pair(impl.OpMov, 4, ofReg(0), ofNumber(1<<31)), pair(impl.OpMov, 1, ofReg(0), ofNumber(128)), pair(impl.OpMov, 8, at3, ofNumber(1<<31)), pair(impl.OpXchg, 8, ofReg(0), at3), pair(impl.OpXchg, 8, ofReg(0), ofNumber(1)), pair(impl.OpXchg, 8, ofNumber(1), ofReg(0)),
		pair(impl.OpShl, 8, ofReg(0), ofReg(2)), pair(impl.OpShl, 8, ofReg(0), ofNumber(256)), pair(impl.OpShl, 8, ofReg(0), ofNumber(-1)), pair(impl.OpShl, 8, ofReg(0), at3),
		pair(impl.OpLea, 8, ofReg(0), ofReg(1)), pair(impl.OpLea, 1, ofReg(0), at3), pair(impl.OpMov, 8, ofReg(0), ofMemory(3, 4, 1, 0)), pair(impl.OpMov, 8, ofReg(0), ofMemory(17, -1, 1, 0)), pair(impl.OpMov, 8, ofReg(0), ofMemory(3, 99, 1, 0)),
		pair(impl.OpMov, 8, ofReg(0), ofMemory(3, -1, 1, 1<<31)), extend(impl.OpMovzx, 8, 4, ofReg(0), ofReg(1)), extend(impl.OpMovzx, 8, 0, ofReg(0), ofReg(1)), extend(impl.OpMovsx, 2, 2, ofReg(0), ofReg(1)),
		source(impl.OpMul, 8, ofNumber(3)), source(impl.OpDiv, 8, ofNumber(0)), source(impl.OpPush, 4, ofReg(0)), source(impl.OpPush, 8, ofNumber(1<<31)), single(impl.OpPop, 8, ofNumber(1)), single(impl.OpPush, 8, ofReg(0)),
		{Op: impl.OpHlt, Size: 8}, {Op: impl.OpSyscall, Src: ofNumber(1)}, source(impl.OpInt, 0, ofNumber(-1)), {Op: impl.OpRet, Size: 8}, {Op: impl.OpStos, Size: 8}, {Op: impl.OpCwide, Size: 1}, single(impl.OpSetcc, 4, ofReg(0))}
	for _, n := range slices.Concat(farNumbers, []int{-1, 16}) {
		nop.Len, jump.Cond = n, n
		list = append(list, nop, jump)
	}
	return list
}

// fineInstrs are instructions that can be encoded, of which some fault with any memory.
func fineInstrs() []impl.Instr {
	return []impl.Instr{{Op: impl.OpNop, Len: 1}, {Op: impl.OpHlt, Len: 1}, {Op: impl.OpSyscall}, source(impl.OpInt, 0, ofNumber(3)), {Op: impl.OpRet, Len: 1}, source(impl.OpDiv, 8, ofReg(0)), pair(impl.OpMov, 8, ofMemory(-1, -1, 1, -5), ofReg(0))}
}

func isZero(a outcome) bool { return a.like(outcome{code: a.code}) }

// checkExecBad looks that ExecInstr answers ErrBad, and nothing beside it; checkStepsBad that StepCpu and RunCpu do.
func checkExecBad(t *testing.T, what string, c impl.Cpu, m impl.Memory, x impl.Instr) {
	t.Helper()
	if got := outcomeOf(impl.ExecInstr(c, m, x)); !isZero(got) || got.code != impl.ErrBad {
		t.Errorf("ExecInstr of %s, %+v: %s", what, x, got.short())
	}
}

func checkStepsBad(t *testing.T, what string, c impl.Cpu, m impl.Memory) {
	t.Helper()
	if got := outcomeOf(impl.StepCpu(c, m)); !isZero(got) || got.code != impl.ErrBad {
		t.Errorf("StepCpu of %s: %s", what, got.short())
	}
	for _, n := range []int{0, 1, impl.MaxSteps, impl.MaxSteps + 1, -1, math.MinInt, math.MaxInt} {
		then, memory, steps, code := impl.RunCpu(c, m, n)
		if !isZero(outcome{then, memory, nil, 0}) || steps != 0 || code != impl.ErrBad {
			t.Errorf("RunCpu of %s, %d: %+v, %d pages, %d, %d", what, n, then, len(memory.Pages), steps, code)
		}
	}
}

// TestInstructionsThatAreNotRight comes first of all, whatever else the instruction would do.
func TestInstructionsThatAreNotRight(t *testing.T) {
	for _, x := range wrongInstrs() {
		if impl.InstrOK(x) {
			t.Fatalf("the tests' own instruction is right: %+v", x)
		}
		for _, m := range []impl.Memory{handMemory(), {}} {
			checkExecBad(t, "a wrong instruction", fullCpu(), m, x)
			checkExecBad(t, "a wrong instruction", impl.Cpu{}, m, x)
		}
	}
}

// TestProcessorsThatAreNotRight: one flag that is none, with instructions that are right and wrong, and memories that are.
func TestProcessorsThatAreNotRight(t *testing.T) {
	program := laidByHand(handMemory(), 512, "\x90\xf4")
	for _, c := range wrongCpus() {
		for _, x := range slices.Concat(fineInstrs(), wrongInstrs()[:8]) {
			checkExecBad(t, "a wrong processor", c, handMemory(), x)
		}
		checkExecBad(t, "a wrong processor and memory", c, memory(page(1, 3)), fineInstrs()[0])
		for _, m := range []impl.Memory{program, handMemory(), {}, memory(page(512, 3)), memory(page(512, 8))} {
			checkStepsBad(t, "a wrong processor", c, m)
		}
	}
}

// TestMemoriesThatAreNotRight: each rule of a memory is broken, with instructions that do not look at it, too.
func TestMemoriesThatAreNotRight(t *testing.T) {
	for _, m := range wrongMemories() {
		for _, x := range append(fineInstrs(), wrongInstrs()[0]) {
			checkExecBad(t, "a wrong memory", fullCpu(), m, x)
		}
		for _, rip := range []int{0, 512, -1} {
			c := fullCpu()
			c.Rip = rip
			checkStepsBad(t, "a wrong memory", c, m)
		}
		checkStepsBad(t, "a wrong memory and processor", impl.Cpu{Flags: 2}, m)
	}
}

// TestFineInstructions are no ErrBad: what the tests above refuse them for is what was wrong there.
func TestFineInstructions(t *testing.T) {
	for _, x := range fineInstrs() {
		for _, m := range rightMemories() {
			for _, flags := range flagSums() {
				c := fullCpu()
				c.Flags = flags
				if got := checkExec(t, c, m, x); got.code == impl.ErrBad {
					t.Errorf("ExecInstr of %+v: %s", x, got.short())
				}
			}
		}
	}
}

// TestNumberOfSteps: any number that is not from 0 to MaxSteps, of what would run, and of what would fault at once.
func TestNumberOfSteps(t *testing.T) {
	// A jump to itself goes as many steps as are asked.
	for _, m := range []impl.Memory{laidByHand(handMemory(), 512, "\xeb\xfe"), laidByHand(handMemory(), 512, "\xf4"), handMemory(), {}} {
		for _, n := range slices.Concat(farNumbers, []int{impl.MaxSteps + 1, impl.MaxSteps + 2, -1, -2, -500, 1000}) {
			then, memory, steps, code := impl.RunCpu(fullCpu(), m, n)
			if !isZero(outcome{then, memory, nil, 0}) || steps != 0 || code != impl.ErrRange {
				t.Errorf("RunCpu of %d: %+v, %d pages, %d, %d", n, then, len(memory.Pages), steps, code)
			}
		}
	}
	for _, n := range []int{0, 1, 2, 499, 500} {
		m := laidByHand(handMemory(), 512, "\xeb\xfe")
		if then, memory, steps, code := impl.RunCpu(fullCpu(), m, n); then != fullCpu() || !alike(memory, m) || steps != n || code != impl.OK {
			t.Errorf("RunCpu of %d: %+v, %d pages, %d, %d", n, then, len(memory.Pages), steps, code)
		}
	}
}
