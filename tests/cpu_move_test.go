package tests

import (
	"math"
	"testing"

	"loop.example/g00664/impl"
)

// TestExecMov: what is but written is not read; numbers have a sign, and Values have none.
func TestExecMov(t *testing.T) {
	checkCases(t, []execCase{
		{x: pair(impl.OpMov, 8, ofReg(0), ofReg(3)), regs: map[int]int{3: -5}, then: map[int]int{0: -5}},
		{x: pair(impl.OpMov, 4, ofReg(0), ofReg(3)), regs: map[int]int{0: -1, 3: -5}, then: map[int]int{0: 0xfffffffb}},
		{x: pair(impl.OpMov, 4, ofReg(8), ofReg(8)), regs: map[int]int{8: -5}, then: map[int]int{8: 0xfffffffb}},
		{x: pair(impl.OpMov, 2, ofReg(0), ofReg(3)), regs: map[int]int{0: 0x70000, 3: -5}, then: map[int]int{0: 0x7fffb}},
		{x: pair(impl.OpMov, 1, ofReg(0), ofReg(16)), regs: map[int]int{0: 0x771122}, then: map[int]int{0: 0x771111}},
		{x: pair(impl.OpMov, 1, ofReg(18), ofReg(3)), regs: map[int]int{2: 0x771122, 3: -1}, then: map[int]int{2: 0x77ff22}},
		{x: pair(impl.OpMov, 8, ofReg(0), ofNumber(math.MinInt)), then: map[int]int{0: math.MinInt}},
		{x: pair(impl.OpMov, 8, ofReg(0), ofNumber(-3)), then: map[int]int{0: -3}},
		{x: pair(impl.OpMov, 4, ofReg(0), ofNumber(-3)), then: map[int]int{0: 0xfffffffd}},
		{x: pair(impl.OpMov, 2, ofReg(0), ofNumber(-3)), regs: map[int]int{0: 0}, then: map[int]int{0: 0xfffd}},
		{x: pair(impl.OpMov, 1, ofReg(0), ofNumber(-3)), regs: map[int]int{0: 0}, then: map[int]int{0: 0xfd}},
		{x: pair(impl.OpMov, 8, atData, ofNumber(-3)), regs: map[int]int{3: 1100}, told: accesses(writeOf(1108, 8, -3))},
		{x: pair(impl.OpMov, 4, atData, ofNumber(-3)), regs: map[int]int{3: 1100}, told: accesses(writeOf(1108, 4, 0xfffffffd))},
		{x: pair(impl.OpMov, 2, atData, ofNumber(-3)), regs: map[int]int{3: 1100}, told: accesses(writeOf(1108, 2, 0xfffd))},
		{x: pair(impl.OpMov, 1, atData, ofNumber(-3)), regs: map[int]int{3: 1100}, told: accesses(writeOf(1108, 1, 0xfd))},
		{x: pair(impl.OpMov, 8, atData, ofReg(3)), regs: map[int]int{3: 1100}, told: accesses(writeOf(1108, 8, 1100))},
		{x: pair(impl.OpMov, 2, atData, ofReg(9)), regs: map[int]int{3: 1100, 9: -2}, told: accesses(writeOf(1108, 2, 0xfffe))},
		{x: pair(impl.OpMov, 1, atData, ofReg(19)), regs: map[int]int{3: 1108}, told: accesses(writeOf(1116, 1, 4))},
		{x: pair(impl.OpMov, 8, ofReg(3), atData), regs: map[int]int{3: 1100}, cells: map[int]int{1108: -7}, then: map[int]int{3: -7}, told: accesses(readOf(1108, 8, -7))},
		{x: pair(impl.OpMov, 4, ofReg(9), atData), regs: map[int]int{3: 1100}, cells: map[int]int{1108: -7}, then: map[int]int{9: 0xfffffff9}, told: accesses(readOf(1108, 4, 0xfffffff9))},
		{x: pair(impl.OpMov, 2, ofReg(9), atData), regs: map[int]int{3: 1100, 9: 0}, cells: map[int]int{1108: -7}, then: map[int]int{9: 0xfff9}, told: accesses(readOf(1108, 2, 0xfff9))},
		{x: pair(impl.OpMov, 1, ofReg(16), atData), regs: map[int]int{3: 1100, 0: 0x30000}, cells: map[int]int{1108: -7}, then: map[int]int{0: 0x3f900}, told: accesses(readOf(1108, 1, 0xf9))},
	})
}

// TestExecPlaces has memory of each kind: with and without Base and Index, beside the instruction, and over the end of a page.
func TestExecPlaces(t *testing.T) {
	to := func(x impl.Operand) impl.Instr { return pair(impl.OpMov, 8, x, ofReg(9)) }
	from := func(x impl.Operand) impl.Instr { return pair(impl.OpMov, 8, ofReg(9), x) }
	regs := map[int]int{1: 10, 3: 1100, 4: 1200, 9: -5, 12: 1110, 13: 1120}
	at := func(address int) []impl.Access { return accesses(writeOf(address, 8, -5)) }
	checkCases(t, []execCase{
		{x: to(at3), regs: regs, told: at(1100)},
		{x: to(ofMemory(3, -1, 1, -70)), regs: regs, told: at(1030)},
		{x: to(ofMemory(3, -1, 1, 300)), regs: regs, told: at(1400)},
		{x: to(ofMemory(12, -1, 1, 1)), regs: regs, told: at(1111)},
		{x: to(ofMemory(13, -1, 1, 0)), regs: regs, told: at(1120)},
		{x: to(ofMemory(4, -1, 1, 0)), regs: regs, told: at(1200)},
		{x: to(ofMemory(3, 1, 1, 0)), regs: regs, told: at(1110)},
		{x: to(ofMemory(3, 1, 2, 0)), regs: regs, told: at(1120)},
		{x: to(ofMemory(3, 1, 4, 7)), regs: regs, told: at(1147)},
		{x: to(ofMemory(4, 1, 8, -8)), regs: regs, told: at(1272)},
		{x: to(ofMemory(1, 12, 1, 0)), regs: regs, told: at(1120)},
		{x: to(ofMemory(-1, 1, 8, 1000)), regs: regs, told: at(1080)},
		{x: to(ofMemory(-1, 12, 1, 0)), regs: regs, told: at(1110)},
		{x: to(ofMemory(-1, -1, 1, 1300)), regs: regs, told: at(1300)},
		{x: to(ofMemory(impl.RegRip, -1, 1, 500)), regs: regs, told: at(handRip + 7 + 500)},
		{x: pair(impl.OpMov, 4, ofMemory(impl.RegRip, -1, 1, 500), ofNumber(7)), told: accesses(writeOf(handRip+10+500, 4, 7))},
		{x: pair(impl.OpMov, 1, ofMemory(impl.RegRip, -1, 1, -50), ofNumber(7)), told: accesses(writeOf(handRip+7-50, 1, 7))},
		{x: from(ofMemory(impl.RegRip, -1, 1, 600)), regs: regs, cells: map[int]int{handRip + 607: -8}, then: map[int]int{9: -8}, told: accesses(readOf(handRip+607, 8, -8))},
		{x: to(ofMemory(-1, -1, 1, 1276)), regs: regs, told: at(1276)},
		{x: to(ofMemory(-1, -1, 1, 1528)), regs: regs, told: at(1528)},
		{x: from(ofMemory(-1, -1, 1, 1279)), cells: map[int]int{1279: 1 << 60}, then: map[int]int{9: 1 << 60}, told: accesses(readOf(1279, 8, 1<<60))},
		{x: from(ofMemory(-1, -1, 1, handRead-1)), cells: map[int]int{handRead - 1: 1 << 60}, then: map[int]int{9: 1 << 60}, told: accesses(readOf(handRead-1, 8, 1<<60))},
		{x: pair(impl.OpAdd, 4, ofMemory(-1, -1, 1, 1277), ofNumber(1)), cells: map[int]int{1277: 0xffffff}, flags: ">P", told: accesses(readOf(1277, 4, 0xffffff), writeOf(1277, 4, 0x1000000))},
	})
}

func TestExecMovzxAndMovsx(t *testing.T) {
	checkCases(t, []execCase{
		{x: extend(impl.OpMovzx, 2, 1, ofReg(0), ofReg(1)), regs: map[int]int{0: 0x7ffff, 1: 0x55fe}, then: map[int]int{0: 0x700fe}},
		{x: extend(impl.OpMovzx, 4, 1, ofReg(0), ofReg(17)), regs: map[int]int{0: -1, 1: 0x8055}, then: map[int]int{0: 0x80}},
		{x: extend(impl.OpMovzx, 8, 1, ofReg(0), ofReg(7)), regs: map[int]int{0: -1, 7: 0x66ff}, then: map[int]int{0: 0xff}},
		{x: extend(impl.OpMovzx, 4, 2, ofReg(0), ofReg(9)), regs: map[int]int{0: -1, 9: 0x7fffe}, then: map[int]int{0: 0xfffe}},
		{x: extend(impl.OpMovzx, 8, 2, ofReg(0), atData), regs: map[int]int{0: -1, 3: 1100}, cells: map[int]int{1108: 0x7fffe}, then: map[int]int{0: 0xfffe}, told: accesses(readOf(1108, 2, 0xfffe))},
		{x: extend(impl.OpMovzx, 4, 1, ofReg(3), atData), regs: map[int]int{3: 1100}, cells: map[int]int{1108: -2}, then: map[int]int{3: 0xfe}, told: accesses(readOf(1108, 1, 0xfe))},
		{x: extend(impl.OpMovsx, 2, 1, ofReg(0), ofReg(1)), regs: map[int]int{0: 0x70000, 1: 0x55fe}, then: map[int]int{0: 0x7fffe}},
		{x: extend(impl.OpMovsx, 4, 1, ofReg(0), ofReg(17)), regs: map[int]int{0: -1, 1: 0x8055}, then: map[int]int{0: 0xffffff80}},
		{x: extend(impl.OpMovsx, 4, 1, ofReg(0), ofReg(1)), regs: map[int]int{0: -1, 1: 0x807f}, then: map[int]int{0: 0x7f}},
		{x: extend(impl.OpMovsx, 8, 1, ofReg(0), ofReg(12)), regs: map[int]int{0: 0, 12: 0x80}, then: map[int]int{0: -128}},
		{x: extend(impl.OpMovsx, 4, 2, ofReg(0), ofReg(9)), regs: map[int]int{0: -1, 9: 0x78000}, then: map[int]int{0: 0xffff8000}},
		{x: extend(impl.OpMovsx, 8, 2, ofReg(0), atData), regs: map[int]int{0: 0, 3: 1100}, cells: map[int]int{1108: 0x7fffe}, then: map[int]int{0: -2}, told: accesses(readOf(1108, 2, 0xfffe))},
		{x: extend(impl.OpMovsx, 8, 4, ofReg(0), ofReg(1)), regs: map[int]int{1: 0x7_8000_0000}, then: map[int]int{0: math.MinInt32}},
		{x: extend(impl.OpMovsx, 8, 4, ofReg(0), ofReg(1)), regs: map[int]int{1: -1 << 32}, then: map[int]int{0: 0}},
		{x: extend(impl.OpMovsx, 8, 4, ofReg(3), atData), regs: map[int]int{3: 1100}, cells: map[int]int{1108: 0xfffffffe}, then: map[int]int{3: -2}, told: accesses(readOf(1108, 4, 0xfffffffe))},
		{x: extend(impl.OpMovsx, 2, 1, ofReg(9), atData), regs: map[int]int{3: 1100, 9: 0}, cells: map[int]int{1108: 0x80}, then: map[int]int{9: 0xff80}, told: accesses(readOf(1108, 1, 0x80))},
	})
}

// TestExecLea reaches for no memory, wherever the address lies.
func TestExecLea(t *testing.T) {
	checkCases(t, []execCase{
		{x: pair(impl.OpLea, 8, ofReg(0), ofMemory(3, 1, 8, -4)), regs: map[int]int{3: 5, 1: -1}, then: map[int]int{0: -7}},
		{x: pair(impl.OpLea, 4, ofReg(0), ofMemory(3, 1, 8, -4)), regs: map[int]int{3: 5, 1: -1}, then: map[int]int{0: 0xfffffff9}},
		{x: pair(impl.OpLea, 2, ofReg(0), ofMemory(3, 1, 8, -4)), regs: map[int]int{0: 0x70000, 3: 5, 1: -1}, then: map[int]int{0: 0x7fff9}},
		{x: pair(impl.OpLea, 4, ofReg(3), ofMemory(3, -1, 1, 0)), regs: map[int]int{3: -1}, then: map[int]int{3: 0xffffffff}},
		{x: pair(impl.OpLea, 8, ofReg(3), ofMemory(3, 3, 2, 0)), regs: map[int]int{3: math.MinInt}, then: map[int]int{3: math.MinInt}},
		{x: pair(impl.OpLea, 8, ofReg(4), ofMemory(4, -1, 1, -8)), regs: map[int]int{4: 1300}, then: map[int]int{4: 1292}},
		{x: pair(impl.OpLea, 8, ofReg(0), ofMemory(-1, -1, 1, -9)), then: map[int]int{0: -9}},
		{x: pair(impl.OpLea, 8, ofReg(0), ofMemory(impl.RegRip, -1, 1, 1000)), then: map[int]int{0: handRip + 7 + 1000}},
		{x: pair(impl.OpLea, 4, ofReg(0), ofMemory(impl.RegRip, -1, 1, -1000)), then: map[int]int{0: 1<<32 + handRip + 6 - 1000}},
	})
}

// TestExecXchg: Dst is Src, then Src is what Dst was; of memory the address is the one of ahead.
func TestExecXchg(t *testing.T) {
	checkCases(t, []execCase{
		{x: pair(impl.OpXchg, 8, ofReg(0), ofReg(9)), regs: map[int]int{0: -1, 9: 5}, then: map[int]int{0: 5, 9: -1}},
		{x: pair(impl.OpXchg, 4, ofReg(0), ofReg(9)), regs: map[int]int{0: -1, 9: 0x6_0000_0005}, then: map[int]int{0: 5, 9: 0xffffffff}},
		{x: pair(impl.OpXchg, 4, ofReg(0), ofReg(0)), regs: map[int]int{0: -5}, then: map[int]int{0: 0xfffffffb}},
		{x: pair(impl.OpXchg, 2, ofReg(0), ofReg(1)), regs: map[int]int{0: 0x71234, 1: 0x65678}, then: map[int]int{0: 0x75678, 1: 0x61234}},
		{x: pair(impl.OpXchg, 1, ofReg(0), ofReg(16)), regs: map[int]int{0: 0x771122}, then: map[int]int{0: 0x772211}},
		{x: pair(impl.OpXchg, 1, ofReg(16), ofReg(0)), regs: map[int]int{0: 0x771122}, then: map[int]int{0: 0x772211}},
		{x: pair(impl.OpXchg, 1, ofReg(16), ofReg(19)), regs: map[int]int{0: 0x771122, 3: 0x773344}, then: map[int]int{0: 0x773322, 3: 0x771144}},
		{x: pair(impl.OpXchg, 8, atData, ofReg(9)), regs: map[int]int{3: 1100, 9: -7}, cells: map[int]int{1108: -9}, then: map[int]int{9: -9}, told: accesses(readOf(1108, 8, -9), writeOf(1108, 8, -7))},
		{x: pair(impl.OpXchg, 4, atData, ofReg(9)), regs: map[int]int{3: 1100, 9: -7}, cells: map[int]int{1108: -9}, then: map[int]int{9: 0xfffffff7}, told: accesses(readOf(1108, 4, 0xfffffff7), writeOf(1108, 4, 0xfffffff9))},
		{x: pair(impl.OpXchg, 2, atData, ofReg(9)), regs: map[int]int{3: 1100, 9: 0x70000}, cells: map[int]int{1108: -9}, then: map[int]int{9: 0x7fff7}, told: accesses(readOf(1108, 2, 0xfff7), writeOf(1108, 2, 0))},
		{x: pair(impl.OpXchg, 1, atData, ofReg(17)), regs: map[int]int{3: 1100, 1: 0x70155}, cells: map[int]int{1108: -9}, then: map[int]int{1: 0x7f755}, told: accesses(readOf(1108, 1, 0xf7), writeOf(1108, 1, 1))},
		{x: pair(impl.OpXchg, 8, atData, ofReg(3)), regs: map[int]int{3: 1100}, cells: map[int]int{1108: 77}, then: map[int]int{3: 77}, told: accesses(readOf(1108, 8, 77), writeOf(1108, 8, 1100))},
		{x: pair(impl.OpXchg, 1, atData, ofReg(3)), regs: map[int]int{3: 1100}, cells: map[int]int{1108: 0}, then: map[int]int{3: 1024}, told: accesses(readOf(1108, 1, 0), writeOf(1108, 1, 1100&255))},
	})
}

func TestExecConditions(t *testing.T) {
	checkCases(t, []execCase{
		{x: withCond("e", single(impl.OpSetcc, 1, ofReg(9))), regs: map[int]int{9: -1}, flags: "Z>Z", then: map[int]int{9: -255}},
		{x: withCond("ne", single(impl.OpSetcc, 1, ofReg(9))), regs: map[int]int{9: -1}, flags: "Z>Z", then: map[int]int{9: -256}},
		{x: withCond("b", single(impl.OpSetcc, 1, ofReg(17))), regs: map[int]int{1: -1}, flags: "C>C", then: map[int]int{1: -0x10000 + 0x01ff}},
		{x: withCond("l", single(impl.OpSetcc, 1, atData)), regs: map[int]int{3: 1100}, flags: "O>O", told: accesses(writeOf(1108, 1, 1))},
		{x: withCond("l", single(impl.OpSetcc, 1, atData)), regs: map[int]int{3: 1100}, flags: "SO>SO", told: accesses(writeOf(1108, 1, 0))},
		{x: withCond("e", pair(impl.OpCmov, 8, ofReg(0), ofReg(1))), regs: map[int]int{0: -1, 1: -2}, flags: "Z>Z", then: map[int]int{0: -2}},
		{x: withCond("e", pair(impl.OpCmov, 8, ofReg(0), ofReg(1))), regs: map[int]int{0: -1, 1: -2}, flags: ">"},
		{x: withCond("e", pair(impl.OpCmov, 4, ofReg(0), ofReg(1))), regs: map[int]int{0: -1, 1: -2}, flags: "Z>Z", then: map[int]int{0: 0xfffffffe}},
		{x: withCond("e", pair(impl.OpCmov, 4, ofReg(0), ofReg(1))), regs: map[int]int{0: -1, 1: -2}, flags: ">", then: map[int]int{0: 0xffffffff}},
		{x: withCond("e", pair(impl.OpCmov, 2, ofReg(0), ofReg(1))), regs: map[int]int{0: 0x70000, 1: -2}, flags: "Z>Z", then: map[int]int{0: 0x7fffe}},
		{x: withCond("e", pair(impl.OpCmov, 2, ofReg(0), ofReg(1))), regs: map[int]int{0: -1, 1: -2}, flags: "C>C"},
		{x: withCond("s", pair(impl.OpCmov, 4, ofReg(9), atData)), regs: map[int]int{9: -1, 3: 1100}, cells: map[int]int{1108: 6}, flags: "S>S", then: map[int]int{9: 6}, told: accesses(readOf(1108, 4, 6))},
		{x: withCond("s", pair(impl.OpCmov, 4, ofReg(9), atData)), regs: map[int]int{9: -1, 3: 1100}, cells: map[int]int{1108: 6}, flags: ">", then: map[int]int{9: 0xffffffff}, told: accesses(readOf(1108, 4, 6))},
		{x: withCond("g", pair(impl.OpCmov, 8, ofReg(3), atData)), regs: map[int]int{3: 1100}, cells: map[int]int{1108: 6}, flags: "Z>Z", told: accesses(readOf(1108, 8, 6))},
	})
}

// TestEachConditionOfInstructions has each condition with any flags.
func TestEachConditionOfInstructions(t *testing.T) {
	m := handMemory()
	for cond := range 16 {
		for _, flags := range flagSums() {
			c := fullCpu()
			c.Regs[3], c.Flags = 1100, flags
			for _, x := range []impl.Instr{single(impl.OpSetcc, 1, ofReg(16)), single(impl.OpSetcc, 1, atData), pair(impl.OpCmov, 4, ofReg(9), ofReg(1)), pair(impl.OpCmov, 8, ofReg(9), atData), source(impl.OpJcc, 0, ofNumber(-300))} {
				x.Cond, x.Len = cond, 6
				checkExec(t, c, m, x)
			}
		}
	}
}

func TestExecCwideAndCsign(t *testing.T) {
	checkCases(t, []execCase{
		{x: impl.Instr{Op: impl.OpCwide, Size: 2}, regs: map[int]int{0: 0x771280}, then: map[int]int{0: 0x77ff80}},
		{x: impl.Instr{Op: impl.OpCwide, Size: 2}, regs: map[int]int{0: 0x77ff7f}, then: map[int]int{0: 0x77007f}},
		{x: impl.Instr{Op: impl.OpCwide, Size: 4}, regs: map[int]int{0: -0x8000}, then: map[int]int{0: 0xffff8000}},
		{x: impl.Instr{Op: impl.OpCwide, Size: 4}, regs: map[int]int{0: -0x8001}, then: map[int]int{0: 0x7fff}},
		{x: impl.Instr{Op: impl.OpCwide, Size: 8}, regs: map[int]int{0: 0x80000000}, then: map[int]int{0: math.MinInt32}},
		{x: impl.Instr{Op: impl.OpCwide, Size: 8}, regs: map[int]int{0: -1<<32 + 5}, then: map[int]int{0: 5}},
		{x: impl.Instr{Op: impl.OpCsign, Size: 2}, regs: map[int]int{0: 0x8000, 2: 0x71234}, then: map[int]int{2: 0x7ffff}},
		{x: impl.Instr{Op: impl.OpCsign, Size: 2}, regs: map[int]int{0: -0x8001, 2: 0x71234}, then: map[int]int{2: 0x70000}},
		{x: impl.Instr{Op: impl.OpCsign, Size: 4}, regs: map[int]int{0: 0x80000000, 2: 0}, then: map[int]int{2: 0xffffffff}},
		{x: impl.Instr{Op: impl.OpCsign, Size: 4}, regs: map[int]int{0: -1<<32 + 5, 2: -1}, then: map[int]int{2: 0}},
		{x: impl.Instr{Op: impl.OpCsign, Size: 8}, regs: map[int]int{0: math.MinInt, 2: 5}, then: map[int]int{2: -1}},
		{x: impl.Instr{Op: impl.OpCsign, Size: 8}, regs: map[int]int{0: 0x80000000, 2: -5}, then: map[int]int{2: 0}},
	})
}

// TestExecProducts: of size 1 register 16 is the upper half, of others register 2; of imul there is none.
func TestExecProducts(t *testing.T) {
	checkCases(t, []execCase{
		{x: source(impl.OpMul, 1, ofReg(3)), regs: map[int]int{0: 0x7777c8, 2: 5, 3: 0x6602}, flags: "Z>CZO", then: map[int]int{0: 0x770190}},
		{x: source(impl.OpMul, 1, ofReg(16)), regs: map[int]int{0: 0x770203}, flags: "CO>", then: map[int]int{0: 0x770006}},
		{x: source(impl.OpMul, 2, ofReg(3)), regs: map[int]int{0: 0x71000, 2: 0x65555, 3: 0x50010}, flags: ">CO", then: map[int]int{0: 0x70000, 2: 0x60001}},
		{x: source(impl.OpMul, 4, ofReg(2)), regs: map[int]int{0: -1, 2: -1}, flags: "S>CSO", then: map[int]int{0: 1, 2: 0xfffffffe}},
		{x: source(impl.OpMul, 8, atData), regs: map[int]int{0: 100, 2: 7, 3: 1100}, cells: map[int]int{1108: -1}, flags: ">CO", then: map[int]int{0: -100, 2: 99}, told: accesses(readOf(1108, 8, -1))},
		{x: source(impl.OpImul1, 1, ofReg(3)), regs: map[int]int{0: 0x7777fe, 3: 3}, flags: "CO>", then: map[int]int{0: 0x77fffa}},
		{x: source(impl.OpImul1, 1, atData), regs: map[int]int{0: 0x80, 3: 1100}, cells: map[int]int{1108: 0x80}, flags: ">CO", then: map[int]int{0: 0x4000}, told: accesses(readOf(1108, 1, 128))},
		{x: source(impl.OpImul1, 4, ofReg(9)), regs: map[int]int{0: -1, 2: 0, 9: 5}, flags: "CO>", then: map[int]int{0: 0xfffffffb, 2: 0xffffffff}},
		{x: source(impl.OpImul1, 8, ofReg(0)), regs: map[int]int{0: math.MinInt, 2: 5}, flags: ">CO", then: map[int]int{0: 0, 2: 1 << 62}},
		{x: pair(impl.OpImul, 4, ofReg(9), ofReg(3)), regs: map[int]int{9: -1, 3: 5}, flags: "CO>", then: map[int]int{9: 0xfffffffb}},
		{x: pair(impl.OpImul, 2, ofReg(9), ofReg(3)), regs: map[int]int{9: 0x74000, 3: 2}, flags: "Z>CZO", then: map[int]int{9: 0x78000}},
		{x: pair(impl.OpImul, 8, ofReg(3), atData), regs: map[int]int{3: 1100}, cells: map[int]int{1108: -2}, flags: "S>S", then: map[int]int{3: -2200}, told: accesses(readOf(1108, 8, -2))},
	})
}

// TestExecQuotients: the quotient goes into register 0, the rest into register 2, of size 1 into 16; the flags stay.
func TestExecQuotients(t *testing.T) {
	checkCases(t, []execCase{
		{x: source(impl.OpDiv, 1, ofReg(3)), regs: map[int]int{0: 0x770105, 2: 9, 3: 0x6610}, then: map[int]int{0: 0x770510}},
		{x: source(impl.OpDiv, 1, ofReg(16)), regs: map[int]int{0: 0x7700ff}, code: impl.ErrDivide},
		{x: source(impl.OpDiv, 1, ofReg(0)), regs: map[int]int{0: 0x770107}, then: map[int]int{0: 0x770425}},
		{x: source(impl.OpDiv, 2, ofReg(3)), regs: map[int]int{0: 0x70005, 2: 0x60001, 3: 0x50010}, then: map[int]int{0: 0x71000, 2: 0x60005}},
		{x: source(impl.OpDiv, 4, ofReg(9)), regs: map[int]int{0: -1, 2: -1<<32 + 4, 9: 5}, then: map[int]int{0: 0xffffffff, 2: 4}},
		{x: source(impl.OpDiv, 8, atData), regs: map[int]int{0: -100, 2: 99, 3: 1100}, cells: map[int]int{1108: 100}, then: map[int]int{0: -1, 2: 0}, told: accesses(readOf(1108, 8, 100))},
		{x: source(impl.OpDiv, 8, ofReg(2)), regs: map[int]int{0: 5, 2: 6}, code: impl.ErrDivide},
		{x: source(impl.OpIdiv, 1, ofReg(3)), regs: map[int]int{0: 0x77fff9, 3: 2}, then: map[int]int{0: 0x77fffd}},
		{x: source(impl.OpIdiv, 4, ofReg(3)), regs: map[int]int{0: 7, 2: 0, 3: -2}, then: map[int]int{0: 0xfffffffd, 2: 1}},
		{x: source(impl.OpIdiv, 8, atData), regs: map[int]int{0: -7, 2: -1, 3: 1100}, cells: map[int]int{1108: 2}, then: map[int]int{0: -3, 2: -1}, told: accesses(readOf(1108, 8, 2))},
		{x: source(impl.OpIdiv, 8, ofReg(3)), regs: map[int]int{0: math.MinInt, 2: -1, 3: -1}, code: impl.ErrDivide},
		{x: source(impl.OpIdiv, 2, atData), regs: map[int]int{0: 5, 2: 0, 3: 1100}, cells: map[int]int{1108: 0x70000}, told: accesses(readOf(1108, 2, 0)), code: impl.ErrDivide},
	})
}
