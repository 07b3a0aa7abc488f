package tests

import (
	"fmt"
	"math/rand"
	"slices"
	"testing"

	"loop.example/g00664/impl"
)

// toldEffects are what the calls of chapter 9 tell of an instruction that is right.
type toldEffects struct {
	touch  impl.Touch
	writes [16]bool
	memory impl.Operand
	has    bool
}

func effectsOf(t *testing.T, x impl.Instr) toldEffects {
	t.Helper()
	var told toldEffects
	var codes [18]int
	told.touch, codes[16] = impl.TouchOf(x)
	told.memory, told.has, codes[17] = impl.MemoryOf(x)
	for reg := range told.writes {
		told.writes[reg], codes[reg] = impl.WritesReg(x, reg)
	}
	if codes != [18]int{} {
		t.Fatalf("codes of %+v: %v", x, codes)
	}
	return told
}

// mayReach is whether an access may be at an address: at the operand that MemoryOf tells, on the stack, or where registers 6 and 7 point to.
func (told toldEffects) mayReach(c impl.Cpu, x impl.Instr, address int) bool {
	var places []int
	if told.has {
		// pop reckons its operand behind the pop.
		then := c
		if x.Op == impl.OpPop {
			then.Regs[4] += 8
		}
		at, _ := impl.AddressOf(then, told.memory, c.Rip+x.Len)
		places = append(places, at)
	}
	if told.touch.Stack {
		places = append(places, c.Regs[4], c.Regs[4]-8)
	}
	if x.Op == impl.OpMovs || x.Op == impl.OpStos {
		places = append(places, c.Regs[6], c.Regs[7])
	}
	return slices.Contains(places, address)
}

// problem is what an instruction did, though it is not told of it; nothing if all is told.
func (told toldEffects) problem(c impl.Cpu, m impl.Memory, x impl.Instr, got outcome) string {
	for reg := range 16 {
		if got.cpu.Regs[reg] != c.Regs[reg] && (!told.writes[reg] || !slices.Contains(told.touch.Regs, reg)) {
			return fmt.Sprint("writes register ", reg)
		}
	}
	for _, a := range got.told {
		switch {
		case a.Kind == impl.AcRead && !told.touch.Reads, a.Kind == impl.AcWrite && !told.touch.Writes, a.Kind != impl.AcRead && a.Kind != impl.AcWrite:
			return fmt.Sprint("has access ", a)
		case !told.mayReach(c, x, a.Address):
			return fmt.Sprint("reaches ", a)
		}
	}
	if !told.touch.Writes && !alike(got.memory, m) {
		return "changes memory"
	}
	return ""
}

// execMemories are of several kinds: with all that is asked, with pages that do not allow it, with few, and with none.
func execMemories() []impl.Memory {
	reads, writes := handMemory(), handMemory()
	for i := range reads.Pages {
		reads.Pages[i].Perm, writes.Pages[i].Perm = 1, 2
	}
	return []impl.Memory{handMemory(), handMemory(), reads, writes, memory(page(1024, 3)), memory(page(1024, 1), page(1280, 2)), pagesFrom(0, 32, 7), {}}
}

func execCpus(source *rand.Rand) []impl.Cpu {
	list := []impl.Cpu{{Rip: handRip}, fullCpu()}
	for range 6 {
		list = append(list, anyCpu(source, 512+source.Intn(180)))
	}
	return list
}

// seenEffects are what an instruction was seen to do.
type seenEffects struct {
	written       [16]bool
	reads, writes bool
	went          int
}

func (s *seenEffects) look(c impl.Cpu, got outcome) {
	for reg := range s.written {
		s.written[reg] = s.written[reg] || got.cpu.Regs[reg] != c.Regs[reg]
	}
	if got.code == impl.OK {
		s.went++
	}
	for _, a := range got.told {
		s.reads = s.reads || a.Kind == impl.AcRead
		s.writes = s.writes || a.Kind == impl.AcWrite
	}
}

// TestNothingElseIsTouched holds for P8: each register, and all memory, that an instruction of any kind writes or reads is told of it, with processors and memories of several kinds.
// What is told and never seen is looked at, too: memory is seen in any case, and of each operation the registers of some instruction.
func TestNothingElseIsTouched(t *testing.T) {
	source, memories := rand.New(rand.NewSource(12)), execMemories()
	whole := map[int]bool{}
	for _, x := range slices.Concat(cpuInstrs(newEncodings(t)), faultInstrs(newEncodings(t))) {
		x.Len = source.Intn(16)
		told, seen := effectsOf(t, x), seenEffects{}
		for i, c := range execCpus(source) {
			for _, m := range []impl.Memory{memories[0], memories[1+(i+x.Op)%(len(memories)-1)]} {
				got := outcomeOf(impl.ExecInstr(c, m, x))
				if text := told.problem(c, m, x, got); text != "" {
					t.Fatalf("%s %+v %s, told is %+v", impl.OpName(x.Op), x, text, told.touch)
				}
				seen.look(c, got)
			}
		}
		if seen.went > 0 && (seen.reads != told.touch.Reads || seen.writes != told.touch.Writes) {
			t.Errorf("%s %+v: seen are %+v, told is %+v", impl.OpName(x.Op), x, seen, told.touch)
		}
		whole[x.Op] = whole[x.Op] || seen.written == told.writes
	}
	for op := impl.OpAdd; op <= impl.OpInt; op++ {
		if !whole[op] {
			t.Errorf("no %s was seen to write all the registers that are told of it", impl.OpName(op))
		}
	}
}

// TestStepsTouchNothingElse holds for P8, too, of what is decoded: any bytes that are an instruction, run where they stand.
func TestStepsTouchNothingElse(t *testing.T) {
	source, m := rand.New(rand.NewSource(13)), handMemory()
	ops := map[int]int{}
	for range 150000 {
		text := make([]byte, 15)
		source.Read(text)
		// One in two has its operation in the second table, or REX ahead.
		text[0] = [4]byte{text[0], text[0], 15, 64 + text[0]%16}[source.Intn(4)]
		x, code := impl.Decode(string(text), 0)
		if code != impl.OK {
			continue
		}
		c := anyCpu(source, 512+source.Intn(180))
		there := laidByHand(m, c.Rip, string(text[:x.Len]))
		got := outcomeOf(impl.StepCpu(c, there))
		got.told = got.told[1:]
		if text := effectsOf(t, x).problem(c, there, x, got); text != "" {
			t.Fatalf("%s %+v %s", impl.OpName(x.Op), x, text)
		}
		ops[x.Op]++
	}
	if len(ops) != len(chapterOps) {
		t.Errorf("%d operations: %v", len(ops), ops)
	}
}
