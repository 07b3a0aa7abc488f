package tests

import (
	"math"
	"testing"

	"loop.example/g00664/impl"
)

// atData is memory 8 bytes behind register 3, which is at 1108 where that is 1100.
var atData = ofMemory(3, -1, 1, 8)

// TestExecSums has each kind of operands, each size, and sums that carry.
func TestExecSums(t *testing.T) {
	checkCases(t, []execCase{
		{x: pair(impl.OpAdd, 8, ofReg(0), ofReg(1)), regs: map[int]int{0: math.MaxInt, 1: 1}, flags: "CZ>SOP", then: map[int]int{0: math.MinInt}},
		{x: pair(impl.OpAdd, 4, ofReg(0), ofReg(9)), regs: map[int]int{0: -1, 9: 1}, flags: "O>CZP", then: map[int]int{0: 0}},
		{x: pair(impl.OpAdd, 2, ofReg(0), ofReg(1)), regs: map[int]int{0: 0x1234567800007fff, 1: -0xffff}, flags: "C>SOP", then: map[int]int{0: 0x1234567800008000}},
		{x: pair(impl.OpAdd, 1, ofReg(0), ofReg(16)), regs: map[int]int{0: 0x11220280}, flags: "CZ>SP", then: map[int]int{0: 0x11220282}},
		{x: pair(impl.OpAdd, 1, ofReg(16), ofReg(0)), regs: map[int]int{0: 0x11220280}, flags: "CZ>SP", then: map[int]int{0: 0x11228280}},
		{x: pair(impl.OpAdd, 1, ofReg(4), ofReg(9)), regs: map[int]int{4: 0x55ff, 9: 0x6602}, flags: ">C", then: map[int]int{4: 0x5501}},
		{x: pair(impl.OpAdd, 8, ofReg(2), ofReg(2)), regs: map[int]int{2: math.MinInt + 3}, flags: ">CPO", then: map[int]int{2: 6}},
		{x: pair(impl.OpAdd, 4, atData, ofReg(1)), regs: map[int]int{3: 1100, 1: -1}, cells: map[int]int{1108: 0x5_0000_0003}, flags: ">C", told: accesses(readOf(1108, 4, 3), writeOf(1108, 4, 2))},
		{x: pair(impl.OpAdd, 8, ofReg(1), atData), regs: map[int]int{3: 1100, 1: 5}, cells: map[int]int{1108: -6}, flags: "C>SP", then: map[int]int{1: -1}, told: accesses(readOf(1108, 8, -6))},
		{x: pair(impl.OpAdd, 2, ofReg(1), ofNumber(-1)), regs: map[int]int{1: 0x70000}, flags: ">SP", then: map[int]int{1: 0x7ffff}},
		{x: pair(impl.OpAdd, 8, ofReg(10), ofNumber(-6)), regs: map[int]int{10: 5}, flags: "C>SP", then: map[int]int{10: -1}},
		{x: pair(impl.OpAdd, 1, atData, ofNumber(-128)), regs: map[int]int{3: 1100}, cells: map[int]int{1108: 0x7780}, flags: ">CZPO", told: accesses(readOf(1108, 1, 128), writeOf(1108, 1, 0))},
		{x: pair(impl.OpAdc, 8, atData, ofNumber(0)), regs: map[int]int{3: 1100}, cells: map[int]int{1108: -1}, flags: "C>CZP", told: accesses(readOf(1108, 8, -1), writeOf(1108, 8, 0))},
		{x: pair(impl.OpAdc, 4, ofReg(0), ofReg(1)), regs: map[int]int{0: -1, 1: 5}, flags: ">C", then: map[int]int{0: 4}},
		{x: pair(impl.OpAdc, 4, ofReg(0), ofReg(1)), regs: map[int]int{0: -1, 1: 5}, flags: "C>CP", then: map[int]int{0: 5}},
	})
}

func TestExecDifferences(t *testing.T) {
	checkCases(t, []execCase{
		{x: pair(impl.OpSub, 4, ofReg(0), ofReg(1)), regs: map[int]int{0: 0x9_0000_0003, 1: 5}, flags: ">CS", then: map[int]int{0: 0xfffffffe}},
		{x: pair(impl.OpSub, 8, ofReg(4), ofNumber(24)), regs: map[int]int{4: 1300}, flags: "COZ>P", then: map[int]int{4: 1276}},
		{x: pair(impl.OpSub, 1, ofReg(0), atData), regs: map[int]int{0: 0x1180, 3: 1100}, cells: map[int]int{1108: 1}, flags: ">O", then: map[int]int{0: 0x117f}, told: accesses(readOf(1108, 1, 1))},
		{x: pair(impl.OpSub, 2, atData, ofReg(9)), regs: map[int]int{3: 1100, 9: 0x10004}, cells: map[int]int{1108: 4}, flags: ">ZP", told: accesses(readOf(1108, 2, 4), writeOf(1108, 2, 0))},
		{x: pair(impl.OpSbb, 8, ofReg(0), ofReg(1)), regs: map[int]int{0: 5, 1: 5}, flags: "C>CSP", then: map[int]int{0: -1}},
		{x: pair(impl.OpSbb, 8, ofReg(0), ofReg(1)), regs: map[int]int{0: 5, 1: 5}, flags: "SPO>ZP", then: map[int]int{0: 0}},
		{x: pair(impl.OpSbb, 4, atData, ofNumber(-1)), regs: map[int]int{3: 1100}, cells: map[int]int{1108: 7}, flags: "C>C", told: accesses(readOf(1108, 4, 7), writeOf(1108, 4, 7))},
		{x: pair(impl.OpCmp, 8, ofReg(0), ofReg(1)), regs: map[int]int{0: 5, 1: 6}, flags: "O>CSP"},
		{x: pair(impl.OpCmp, 4, ofReg(0), ofNumber(5)), regs: map[int]int{0: 0x7_0000_0005}, flags: "O>ZP"},
		{x: pair(impl.OpCmp, 4, atData, ofReg(1)), regs: map[int]int{3: 1100, 1: 4}, cells: map[int]int{1108: 1<<32 + 9}, flags: "O>P", told: accesses(readOf(1108, 4, 9))},
		{x: pair(impl.OpCmp, 1, ofReg(16), atData), regs: map[int]int{3: 1100, 0: 0x8000}, cells: map[int]int{1108: 1}, flags: "C>O", told: accesses(readOf(1108, 1, 1))},
		{x: pair(impl.OpCmp, 2, atData, ofNumber(-1)), regs: map[int]int{3: 1100}, cells: map[int]int{1108: 0x8ffff}, flags: "C>ZP", told: accesses(readOf(1108, 2, 65535))},
	})
}

func TestExecBits(t *testing.T) {
	checkCases(t, []execCase{
		{x: pair(impl.OpOr, 2, ofReg(0), ofReg(1)), regs: map[int]int{0: 0x550f0, 1: 0x8003}, flags: "COZ>SP", then: map[int]int{0: 0x5d0f3}},
		{x: pair(impl.OpOr, 8, atData, ofNumber(-16)), regs: map[int]int{3: 1100}, cells: map[int]int{1108: 3}, flags: "CO>SP", told: accesses(readOf(1108, 8, 3), writeOf(1108, 8, -13))},
		{x: pair(impl.OpAnd, 4, ofReg(11), ofNumber(4095)), regs: map[int]int{11: -0x1000 + 0x234}, flags: "CSO>", then: map[int]int{11: 0x234}},
		{x: pair(impl.OpAnd, 8, ofReg(11), ofNumber(-32)), regs: map[int]int{11: 0x12_0000_00ff}, flags: "CZO>", then: map[int]int{11: 0x12_0000_00e0}},
		{x: pair(impl.OpAnd, 1, ofReg(3), ofReg(17)), regs: map[int]int{3: 0x12ff, 1: 0x5000}, flags: "C>P", then: map[int]int{3: 0x1250}},
		{x: pair(impl.OpXor, 4, ofReg(0), ofReg(0)), flags: "CSO>ZP", then: map[int]int{0: 0}},
		{x: pair(impl.OpXor, 8, ofReg(13), atData), regs: map[int]int{13: -1, 3: 1100}, cells: map[int]int{1108: 0x0f}, flags: "CO>SP", then: map[int]int{13: -16}, told: accesses(readOf(1108, 8, 15))},
		{x: pair(impl.OpTest, 4, ofReg(0), ofReg(1)), regs: map[int]int{0: 0x80000001, 1: 0x80000000}, flags: "COZ>SP"},
		{x: pair(impl.OpTest, 8, atData, ofReg(1)), regs: map[int]int{3: 1100, 1: 8}, cells: map[int]int{1108: 7}, flags: "CSO>ZP", told: accesses(readOf(1108, 8, 7))},
		{x: pair(impl.OpTest, 1, atData, ofNumber(-128)), regs: map[int]int{3: 1100}, cells: map[int]int{1108: 0xff}, flags: "CO>S", told: accesses(readOf(1108, 1, 255))},
		{x: pair(impl.OpTest, 2, ofReg(0), ofNumber(-2)), regs: map[int]int{0: 0x30001}, flags: "CSO>ZP"},
	})
}

func TestExecOfOneOperand(t *testing.T) {
	checkCases(t, []execCase{
		{x: single(impl.OpNot, 4, ofReg(0)), regs: map[int]int{0: 0x7_0000_00ff}, then: map[int]int{0: 0xffffff00}},
		{x: single(impl.OpNot, 1, ofReg(19)), regs: map[int]int{3: 0x70f50}, then: map[int]int{3: 0x7f050}},
		{x: single(impl.OpNot, 8, atData), regs: map[int]int{3: 1100}, cells: map[int]int{1108: 4}, told: accesses(readOf(1108, 8, 4), writeOf(1108, 8, -5))},
		{x: single(impl.OpNeg, 2, ofReg(7)), regs: map[int]int{7: 0x50001}, flags: "Z>CSP", then: map[int]int{7: 0x5ffff}},
		{x: single(impl.OpNeg, 4, atData), regs: map[int]int{3: 1100}, cells: map[int]int{1108: 0}, flags: "CSO>ZP", told: accesses(readOf(1108, 4, 0), writeOf(1108, 4, 0))},
		{x: single(impl.OpInc, 4, ofReg(1)), regs: map[int]int{1: -1}, flags: "C>CZP", then: map[int]int{1: 0}},
		{x: single(impl.OpInc, 1, atData), regs: map[int]int{3: 1100}, cells: map[int]int{1108: 0x127f}, flags: ">SO", told: accesses(readOf(1108, 1, 127), writeOf(1108, 1, 128))},
		{x: single(impl.OpDec, 8, ofReg(4)), regs: map[int]int{4: math.MinInt}, flags: "C>CPO", then: map[int]int{4: math.MaxInt}},
		{x: single(impl.OpDec, 2, atData), regs: map[int]int{3: 1100}, cells: map[int]int{1108: 0x30000}, flags: ">SP", told: accesses(readOf(1108, 2, 0), writeOf(1108, 2, 65535))},
	})
}

// TestExecShifts: with a count of 0 Dst is written all the same, of which of size 4 the upper half is 0 then, and the flags stay.
func TestExecShifts(t *testing.T) {
	checkCases(t, []execCase{
		{x: pair(impl.OpShl, 4, ofReg(0), ofNumber(4)), regs: map[int]int{0: 0x3_0800_0001}, flags: "O>SO", then: map[int]int{0: 0x80000010}},
		{x: pair(impl.OpShl, 8, ofReg(0), ofNumber(63)), regs: map[int]int{0: 3}, flags: "Z>CSP", then: map[int]int{0: math.MinInt}},
		{x: pair(impl.OpShl, 4, ofReg(0), ofNumber(0)), regs: map[int]int{0: -1}, then: map[int]int{0: 0xffffffff}},
		{x: pair(impl.OpShl, 4, ofReg(0), ofNumber(32)), regs: map[int]int{0: -1}, then: map[int]int{0: 0xffffffff}},
		{x: pair(impl.OpShl, 8, ofReg(0), ofNumber(64)), regs: map[int]int{0: -7}},
		{x: pair(impl.OpShl, 2, ofReg(0), ofNumber(0)), regs: map[int]int{0: -7}},
		{x: pair(impl.OpShr, 1, atData, ofReg(1)), regs: map[int]int{1: 0x7701, 3: 1100}, cells: map[int]int{1108: 0x1281}, flags: ">CO", told: accesses(readOf(1108, 1, 129), writeOf(1108, 1, 64))},
		{x: pair(impl.OpShr, 8, atData, ofReg(1)), regs: map[int]int{1: 0x7700, 3: 1100}, cells: map[int]int{1108: -9}, told: accesses(readOf(1108, 8, -9), writeOf(1108, 8, -9))},
		{x: pair(impl.OpShr, 4, ofReg(1), ofReg(1)), regs: map[int]int{1: -0x100 + 0x22}, flags: "O>C", then: map[int]int{1: 0x3fffffc8}},
		{x: pair(impl.OpSar, 1, ofReg(17), ofReg(1)), regs: map[int]int{1: 0x778003}, flags: "CO>SP", then: map[int]int{1: 0x77f003}},
		{x: pair(impl.OpSar, 8, atData, ofNumber(255)), regs: map[int]int{3: 1100}, cells: map[int]int{1108: math.MinInt + 5}, flags: "O>SP", told: accesses(readOf(1108, 8, math.MinInt+5), writeOf(1108, 8, -1))},
		{x: pair(impl.OpRol, 2, ofReg(9), ofNumber(5)), regs: map[int]int{9: 0x78001}, flags: "SZ>SZ", then: map[int]int{9: 0x70030}},
		{x: pair(impl.OpRol, 4, atData, ofNumber(0)), regs: map[int]int{3: 1100}, cells: map[int]int{1108: -2}, told: accesses(readOf(1108, 4, 0xfffffffe), writeOf(1108, 4, 0xfffffffe))},
		{x: pair(impl.OpRor, 4, ofReg(9), ofReg(1)), regs: map[int]int{1: 33, 9: 1}, flags: "PZ>CPZO", then: map[int]int{9: 0x80000000}},
		{x: pair(impl.OpRor, 1, atData, ofNumber(8)), regs: map[int]int{3: 1100}, cells: map[int]int{1108: 0x90}, flags: "P>CPO", told: accesses(readOf(1108, 1, 144), writeOf(1108, 1, 144))},
	})
}
