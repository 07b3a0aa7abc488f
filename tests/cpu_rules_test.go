package tests

import (
	"fmt"
	"math"
	"slices"
	"testing"

	"loop.example/g00664/impl"
)

// someCpus are processors that are right and others, with any integers in their fields.
func someCpus() []impl.Cpu {
	list := []impl.Cpu{{}, fullCpu(), {Rip: 512, Flags: 2}, {Rip: -1, Flags: -1}}
	for _, n := range []int{-1, 1, 1100, math.MinInt, math.MaxInt} {
		c := impl.Cpu{Rip: n}
		for i := range c.Regs {
			c.Regs[i] = n
		}
		list = append(list, c)
	}
	return list
}

// runnable are memories of which some have instructions where a processor of someCpus has Rip.
func runnable() []impl.Memory {
	whole := laidByHand(handMemory(), 512, "\x48\x01\xc8\x50\x89\x0d\x00\x02\x00\x00\xa4\xeb\xf3")
	return append(someMemories(), whole, laidByHand(whole, 1100, "\x90\xf4"), laidByHand(memory(page(0, 7), page(256, 2)), 0, "\xaa\xeb\xfd"))
}

// cpuInputs are instructions, right ones and others.
func cpuInputs() []impl.Instr {
	return slices.Concat(fineInstrs(), wrongInstrs()[:24], []impl.Instr{pair(impl.OpAdd, 4, at3, ofReg(1)), pair(impl.OpXchg, 1, ofReg(16), ofReg(0)), source(impl.OpPush, 8, onStack(8)), single(impl.OpPop, 8, onStack(8)),
		source(impl.OpCall, 8, ofReg(0)), {Op: impl.OpMovs, Size: 1, Len: 1}, {Op: impl.OpStos, Size: 1, Len: 15}, pair(impl.OpLea, 8, ofReg(0), ofMemory(3, 3, 8, 1<<30)), {Op: impl.OpCsign, Size: 8}, withCond("g", source(impl.OpJcc, 0, ofNumber(math.MinInt32)))})
}

// toldOutcome is an answer as a text that is short even of a large memory.
func toldOutcome(c impl.Cpu, m impl.Memory, list []impl.Access, code int) string {
	return fmt.Sprint(c, told(m, code), list)
}

func toldRun(c impl.Cpu, m impl.Memory, steps, code int) string {
	return fmt.Sprint(c, told(m, code), steps)
}

// cpuMemoryCalls are the calls of chapter 8 with each of these memories.
func cpuMemoryCalls(memories []impl.Memory) []call {
	var list []call
	add := func(make func() string, name ...any) { list = append(list, call{fmt.Sprint(name...), make}) }
	for i, m := range memories {
		for k, c := range someCpus() {
			add(func() string { return toldOutcome(impl.StepCpu(c, m)) }, "StepCpu ", i, k)
			for _, n := range []int{0, 1, 2, 7, 40, 500, 501, -1, math.MinInt, math.MaxInt} {
				add(func() string { return toldRun(impl.RunCpu(c, m, n)) }, "RunCpu ", i, k, n)
			}
			for j, x := range cpuInputs() {
				add(func() string { return toldOutcome(impl.ExecInstr(c, m, x)) }, "ExecInstr ", i, k, j)
			}
		}
	}
	return list
}

// cpuCalls are all the calls of chapter 8.
func cpuCalls() []call {
	list := cpuMemoryCalls(runnable())
	add := func(make func() string, name ...any) { list = append(list, call{fmt.Sprint(name...), make}) }
	for k, c := range someCpus() {
		add(func() string { return fmt.Sprint(impl.CpuOK(c)) }, "CpuOK ", k)
		for _, a := range anyNumbers {
			for _, b := range anyNumbers {
				add(func() string { return fmt.Sprint(impl.GetReg(c, a, b)) }, "GetReg ", k, a, b)
				add(func() string { return fmt.Sprint(impl.SetReg(c, a, b, a+b)) }, "SetReg ", k, a, b)
			}
			for i, x := range decodeOperands() {
				add(func() string { return fmt.Sprint(impl.AddressOf(c, x, a)) }, "AddressOf ", k, a, i)
			}
		}
	}
	return list
}

// TestAlikeMemoriesRunAlike holds for P1: it hands in memories that are alike but lie elsewhere.
func TestAlikeMemoriesRunAlike(t *testing.T) {
	memories := runnable()
	others := make([]impl.Memory, len(memories))
	for i, m := range memories {
		others[i] = elsewhere(m)
	}
	checkAlike(t, cpuMemoryCalls(memories), cpuMemoryCalls(others))
}

// TestMemoriesStayWhereTheyAreRun holds for P1: no call changes a memory that it is given, nor what stands behind the end of its list.
func TestMemoriesStayWhereTheyAreRun(t *testing.T) {
	for i, m := range runnable() {
		all := append(slices.Clone(m.Pages), page(40960, 3), page(41216, 3))
		want := slices.Clone(all)
		answersOf(cpuMemoryCalls([]impl.Memory{{Pages: all[:len(m.Pages)]}}))
		if !slices.Equal(all, want) {
			t.Errorf("memory %d is changed", i)
		}
	}
}

// spoilAccesses writes into all the memory that a list of accesses has, behind its end too.
func spoilAccesses(list []impl.Access) {
	all := list[:cap(list)]
	for i := range all {
		all[i] = impl.Access{Kind: -1, Address: -1, Size: -1, Value: -1}
	}
}

// ranOutcomes are answers of the three calls, with and without stores, and with each kind of fault.
func ranOutcomes(t *testing.T, c impl.Cpu, m impl.Memory) []outcome {
	t.Helper()
	var list []outcome
	codes := map[int]bool{}
	keep := func(c impl.Cpu, m impl.Memory, told []impl.Access, code int) {
		list, codes[code] = append(list, outcome{c, m, told, code}), true
	}
	inputs := []impl.Instr{{Op: impl.OpNop, Len: 1}, pair(impl.OpMov, 8, ofMemory(-1, -1, 1, 1100), ofNumber(7)), pair(impl.OpXor, 4, ofMemory(-1, -1, 1, 1100), ofNumber(7)), pair(impl.OpCmp, 8, ofMemory(-1, -1, 1, 1100), ofNumber(7)),
		pair(impl.OpAdd, 8, ofMemory(-1, -1, 1, handRead), ofNumber(7)), pair(impl.OpMov, 8, ofReg(0), ofMemory(-1, -1, 1, handGap)), source(impl.OpDiv, 8, ofReg(1)), {Op: impl.OpHlt}, {Op: impl.OpSyscall}}
	for _, x := range inputs {
		keep(impl.ExecInstr(c, m, x))
		keep(impl.StepCpu(c, first(laid(t, m, c.Rip, x))))
	}
	keep(impl.StepCpu(c, m))
	c.Rip = handData
	keep(impl.StepCpu(c, m))
	c.Rip = handRip
	for _, n := range []int{0, 1, 2, 3, 500} {
		then, memory, _, code := impl.RunCpu(c, m, n)
		keep(then, memory, nil, code)
	}
	for _, code := range []int{impl.OK, impl.ErrPerm, impl.ErrPage, impl.ErrDivide, impl.ErrHalt, impl.ErrTrap, impl.ErrFetch} {
		if !codes[code] {
			t.Fatal("no answer with code", code)
		}
	}
	return list
}

func first(m impl.Memory, _ int) impl.Memory { return m }

// TestRunsShareNothing holds for P1 and rule 3: what is done to one answer, of a fault too, shows neither in the memory that was handed in nor in another answer.
func TestRunsShareNothing(t *testing.T) {
	// mov [1100], 7; nop; hlt
	m := laidByHand(handMemory(), handRip, "\x48\xc7\x04\x25\x4c\x04\x00\x00\x07\x00\x00\x00\x90\xf4")
	all := append(slices.Clone(m.Pages), page(40960, 3), page(41216, 3))
	want := slices.Clone(all)
	c := impl.Cpu{Rip: handRip}
	answers := ranOutcomes(t, c, impl.Memory{Pages: all[:len(m.Pages)]})
	var before []outcome
	for _, a := range answers {
		if len(a.memory.Pages) != len(m.Pages) {
			t.Fatal("an answer without its memory", a.short())
		}
		before = append(before, outcome{a.cpu, impl.Memory{Pages: slices.Clone(a.memory.Pages)}, slices.Clone(a.told), a.code})
	}
	for i, a := range answers {
		if !a.like(before[i]) {
			t.Fatal("an answer shares memory with another one", i)
		}
		spoil(a.memory.Pages)
		spoilAccesses(a.told)
		if !slices.Equal(all, want) {
			t.Fatal("an answer shares memory with the argument", i)
		}
	}
}

// TestNothingIsKeptOfRuns holds for P1: the same call has the same answer behind others, and beside a code other than 0 there is but what chapter 8 tells.
func TestNothingIsKeptOfRuns(t *testing.T) {
	faults := []int{impl.ErrPage, impl.ErrPerm, impl.ErrDivide, impl.ErrHalt, impl.ErrTrap}
	fetches := append([]int{impl.ErrFetch, impl.ErrEnd, impl.ErrPrefix, impl.ErrOpcode, impl.ErrOperand}, faults...)
	for i, m := range runnable() {
		for k, c := range someCpus() {
			for j, x := range cpuInputs() {
				got := outcomeOf(impl.ExecInstr(c, m, x))
				bad := !impl.CpuOK(c) || !impl.MemoryOK(m) || !impl.InstrOK(x)
				if bad && (!isZero(got) || got.code != impl.ErrBad) || !bad && got.code != impl.OK && (got.cpu != c || !alike(got.memory, m) || !slices.Contains(faults, got.code)) {
					t.Errorf("ExecInstr %d, %d, %d: %s", i, k, j, got.short())
				}
				if again := outcomeOf(impl.ExecInstr(c, m, x)); !again.like(got) {
					t.Errorf("ExecInstr %d, %d, %d: %s, then %s", i, k, j, got.short(), again.short())
				}
			}
			got := outcomeOf(impl.StepCpu(c, m))
			bad := !impl.CpuOK(c) || !impl.MemoryOK(m)
			if bad && (!isZero(got) || got.code != impl.ErrBad) || !bad && got.code != impl.OK && (got.cpu != c || !alike(got.memory, m) || !slices.Contains(fetches, got.code)) {
				t.Errorf("StepCpu %d, %d: %s", i, k, got.short())
			}
		}
	}
}
