package tests

import (
	"strings"
	"testing"

	"loop.example/g00664/impl"
)

// The pages that instructions told by hand have: handText may be run, too, where they stand at handRip, handData and the next page read and written;
// then there is one that may be read alone, one that may be written alone, none, and one more.
const (
	handText  = 512
	handRip   = 600
	handData  = 1024
	handRead  = 1536
	handWrite = 1792
	handGap   = 2048
	handMore  = 2304
)

func handMemory() impl.Memory {
	return memory(page(handText, 7), page(handData, 3), page(handData+256, 3), page(handRead, 1), page(handWrite, 2), page(handMore, 3))
}

// ripKey is where an execCase tells Rip among registers.
const ripKey = 16

// An execCase is an instruction told by hand, its processor and its memory ahead, and what is another one behind it.
// Its flags are told as "ahead>behind"; without these, any ones stay. Its cells have eight bytes each.
type execCase struct {
	x     impl.Instr
	regs  map[int]int
	cells map[int]int
	flags string
	then  map[int]int
	told  []impl.Access
	code  int
}

func single(op, size int, dst impl.Operand) impl.Instr {
	return impl.Instr{Op: op, Size: size, Dst: dst}
}

func source(op, size int, src impl.Operand) impl.Instr {
	return impl.Instr{Op: op, Size: size, Src: src}
}

func withCond(cond string, x impl.Instr) impl.Instr {
	x.Cond = impl.CondOf(cond)
	return x
}

func accesses(list ...impl.Access) []impl.Access { return list }

// laid lays the bytes of an instruction where Rip is, and tells its length.
func laid(t *testing.T, m impl.Memory, rip int, x impl.Instr) (impl.Memory, int) {
	t.Helper()
	text, code := impl.Encode(x)
	if code != impl.OK {
		t.Fatalf("the tests' own instruction cannot be encoded: %+v", x)
	}
	return laidByHand(m, rip, text), len(text)
}

// eachFlags are the flags ahead and behind of a case.
func (v execCase) eachFlags() [][2]int {
	if ahead, behind, two := strings.Cut(v.flags, ">"); two {
		return [][2]int{{fl(ahead), fl(behind)}}
	}
	var list [][2]int
	for _, sum := range flagSums() {
		list = append(list, [2]int{sum, sum})
	}
	return list
}

// behind is what a case tells of its processor and its memory.
func (v execCase) behind(c impl.Cpu, m impl.Memory, flags int) outcome {
	if v.code != impl.OK {
		return outcome{c, m, v.told, v.code}
	}
	c.Rip += v.x.Len
	c.Flags = flags
	for reg, n := range v.then {
		if reg == ripKey {
			c.Rip = n
		} else {
			c.Regs[reg] = n
		}
	}
	for _, a := range v.told {
		if a.Kind == impl.AcWrite {
			m = laidByHand(m, a.Address, string(bytesOfNumber(a.Value, a.Size)))
		}
	}
	return outcome{c, m, v.told, impl.OK}
}

// checkCases makes each instruction by itself, and where it stands in memory.
func checkCases(t *testing.T, list []execCase) {
	t.Helper()
	for _, v := range list {
		m := handMemory()
		for address, n := range v.cells {
			m = laidByHand(m, address, string(bytesOfNumber(n, 8)))
		}
		m, v.x.Len = laid(t, m, handRip, v.x)
		c := fullCpu()
		c.Rip = handRip
		for reg, n := range v.regs {
			c.Regs[reg] = n
		}
		for _, flags := range v.eachFlags() {
			c.Flags = flags[0]
			want := v.behind(c, m, flags[1])
			if got := outcomeOf(impl.ExecInstr(c, m, v.x)); !got.like(want) {
				t.Errorf("ExecInstr of %s %+v:\n%s, want\n%s", impl.OpName(v.x.Op), v.x, got.short(), want.short())
			}
			want.told = append([]impl.Access{runOf(handRip, v.x.Len)}, v.told...)
			if got := outcomeOf(impl.StepCpu(c, m)); !got.like(want) {
				t.Errorf("StepCpu of %s %+v:\n%s, want\n%s", impl.OpName(v.x.Op), v.x, got.short(), want.short())
			}
		}
	}
}
