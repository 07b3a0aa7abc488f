package tests

import (
	"math/rand"
	"slices"
	"testing"

	"loop.example/g00664/impl"
)

// cpuInstrs are instructions of each operation, with each of its sizes and each kind of its operands; their memory is where an anyCpu has some.
func cpuInstrs(m *encodings) []impl.Instr {
	var list []impl.Instr
	operands := []impl.Operand{{}, ofReg(0), ofReg(1), ofReg(2), ofReg(4), ofReg(9), ofReg(16), ofReg(19), ofNumber(5), ofNumber(-3), ofNumber(200), ofNumber(-1 << 40),
		ofMemory(3, -1, 1, 8), onStack(-16), ofMemory(13, 2, 4, -5), ofMemory(-1, 9, 8, 0), ofMemory(impl.RegRip, -1, 1, 700), ofMemory(-1, -1, 1, 1030)}
	for op := impl.OpAdd; op <= impl.OpInt; op++ {
		for _, size := range instrSizes[:5] {
			for _, from := range fromsOf(op) {
				for _, dst := range operands {
					for _, src := range operands {
						x := impl.Instr{Op: op, Size: size, From: from, Dst: dst, Src: src}
						if slices.Contains(opsWithCond, m.opName(op)) {
							x.Cond = len(list) % 16
						}
						if m.mayBe(x) {
							list = append(list, x)
						}
					}
				}
			}
		}
	}
	return list
}

// regEdges are numbers about the bounds of all sizes.
var regEdges = slices.Concat(edgesOf(1), edgesOf(2), edgesOf(4), edgesOf(8))

// anyCpu has numbers at the ends of all sizes, and memory at the places of cpuInstrs, where Rip is from 512 to 700.
func anyCpu(source *rand.Rand, rip int) impl.Cpu {
	c := impl.Cpu{Rip: rip, Flags: flagSums()[source.Intn(32)]}
	for i := range c.Regs {
		c.Regs[i] = regEdges[source.Intn(len(regEdges))]
	}
	if source.Intn(3) == 0 {
		// Then quotients are likely to fit.
		c.Regs[2] = c.Regs[0] >> 63
	}
	c.Regs[3], c.Regs[4] = 1024+source.Intn(400), 1100+source.Intn(300)
	c.Regs[6], c.Regs[7] = 1024+source.Intn(500), 1024+source.Intn(500)
	c.Regs[9] = 130 + source.Intn(40) + source.Intn(8)<<61
	c.Regs[13] = 1024 + 5 + source.Intn(400) - 4*c.Regs[2]
	return c
}

// TestExecOfAll holds each operation, with each size and kind of operand, against the tests' own processor.
func TestExecOfAll(t *testing.T) {
	m, source := handMemory(), rand.New(rand.NewSource(8))
	went, faults := map[int]int{}, map[int]int{}
	for _, x := range cpuInstrs(newEncodings(t)) {
		for range 20 {
			x.Len = source.Intn(16)
			if checkExec(t, anyCpu(source, 512+source.Intn(180)), m, x).code == impl.OK {
				went[x.Op]++
			} else {
				faults[x.Op]++
			}
		}
	}
	for op := impl.OpAdd; op <= impl.OpInt; op++ {
		never := slices.Contains([]int{impl.OpHlt, impl.OpSyscall, impl.OpInt}, op)
		// All memory is there, so that nothing faults but divisions, and what is never done.
		if never != (went[op] == 0) || !never && !slices.Contains(divideOps, op) && faults[op] > 0 {
			t.Errorf("%s went %d times, and faulted %d times", impl.OpName(op), went[op], faults[op])
		}
	}
	for _, op := range divideOps {
		if went[op] < 200 || faults[op] < 200 {
			t.Errorf("%s went %d times, and faulted %d times", impl.OpName(op), went[op], faults[op])
		}
	}
}

// TestStepsAreInstructions: what stands at Rip does what ExecInstr does of it, at any place, over the end of a page too.
func TestStepsAreInstructions(t *testing.T) {
	m, source := memory(page(512, 7), page(768, 7), page(1024, 3), page(1280, 3)), rand.New(rand.NewSource(9))
	for _, x := range cpuInstrs(newEncodings(t)) {
		for _, rip := range []int{512 + source.Intn(180), 768 - 1 - source.Intn(10)} {
			c := anyCpu(source, rip)
			// Beside the instruction there is memory at the same distance, but nearer if it stands behind.
			if rip > 700 {
				x = nearer(x)
			}
			there, length := laid(t, m, rip, x)
			x.Len = length
			want := checkStep(t, c, there)
			if want.told[0] != runOf(rip, length) {
				t.Fatalf("StepCpu of %+v: %s", x, want.short())
			}
			alone := outcomeOf(impl.ExecInstr(c, there, x))
			alone.told = append(accesses(runOf(rip, length)), alone.told...)
			if !alone.like(want) {
				t.Fatalf("ExecInstr of %+v at %d: %s, by StepCpu %s", x, rip, alone.short(), want.short())
			}
		}
	}
}

// nearer has memory beside the instruction 200 bytes nearer.
func nearer(x impl.Instr) impl.Instr {
	if x.Src.Base == impl.RegRip {
		x.Src.Disp -= 200
	}
	if x.Dst.Base == impl.RegRip {
		x.Dst.Disp -= 200
	}
	return x
}

// isFar tells an instruction that goes to where a register or memory tells, wherever it stands.
func isFar(x impl.Instr) bool {
	return x.Op == impl.OpRet || (x.Op == impl.OpJmp || x.Op == impl.OpCall) && x.Src.Kind != impl.KindImm
}

// moved is an outcome, as it is to be where the instruction stands some bytes farther on.
func moved(a outcome, x impl.Instr, by int) outcome {
	if !isFar(x) || a.code != impl.OK {
		a.cpu.Rip += by
	}
	a.told = slices.Clone(a.told)
	if last := len(a.told) - 1; x.Op == impl.OpCall {
		a.told[last].Value += by
		if a.code == impl.OK {
			a.memory = laidByHand(a.memory, a.told[last].Address, string(bytesOfNumber(a.told[last].Value, 8)))
		}
	}
	return a
}

// TestWhereverItStands holds for P7: an instruction does the same at two places, but for Rip, and for the next address that a call pushes;
// memory beside it is the same if it is as much nearer.
func TestWhereverItStands(t *testing.T) {
	m, source := handMemory(), rand.New(rand.NewSource(10))
	for _, x := range cpuInstrs(newEncodings(t)) {
		x.Len = source.Intn(16)
		for _, by := range []int{1, -3, 77, 60000, -1 << 40, source.Int()} {
			c := anyCpu(source, 512+source.Intn(180))
			here := outcomeOf(impl.ExecInstr(c, m, x))
			there, y := c, x
			there.Rip += by
			if x.Src.Base == impl.RegRip || x.Dst.Base == impl.RegRip {
				if by < -1000 || by > 100000 {
					continue
				}
				if y.Src.Base == impl.RegRip {
					y.Src.Disp -= by
				} else {
					y.Dst.Disp -= by
				}
			}
			if got, want := outcomeOf(impl.ExecInstr(there, m, y)), moved(here, x, by); !got.like(want) {
				t.Fatalf("%+v at %d and %d farther on: %s, want %s", x, c.Rip, by, got.short(), want.short())
			}
		}
	}
}

// TestStepsWhereverTheyStand holds for P7, too: the same bytes at two places, with other bytes about them.
func TestStepsWhereverTheyStand(t *testing.T) {
	m, source := memory(page(512, 7), page(1024, 3), page(1280, 3), page(4096, 7)), rand.New(rand.NewSource(11))
	count := 0
	for _, x := range cpuInstrs(newEncodings(t)) {
		if x.Src.Base == impl.RegRip || x.Dst.Base == impl.RegRip {
			continue
		}
		first, second := 512+source.Intn(240), 4096+source.Intn(240)
		both, length := laid(t, m, first, x)
		both, _ = laid(t, both, second, x)
		c := anyCpu(source, first)
		here := outcomeOf(impl.StepCpu(c, both))
		c.Rip = second
		there := outcomeOf(impl.StepCpu(c, both))
		want := moved(here, x, second-first)
		want.told[0].Address = second
		if !there.like(want) || here.told[0] != runOf(first, length) {
			t.Fatalf("%+v at %d and %d: %s, want %s", x, first, second, there.short(), want.short())
		}
		count++
	}
	if count < 3000 {
		t.Error("instructions:", count)
	}
}
