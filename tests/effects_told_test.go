package tests

import (
	"math"
	"testing"

	"loop.example/g00664/impl"
)

// TestMemoryOf has memory as Dst, as Src, and none.
func TestMemoryOf(t *testing.T) {
	for _, place := range []impl.Operand{at3, onStack(-8), ofMemory(-1, -1, 1, 512), ofMemory(impl.RegRip, -1, 1, -9), ofMemory(15, 3, 1, 0), ofMemory(-1, 9, 8, math.MinInt32), ofMemory(0, 0, 4, math.MaxInt32)} {
		for _, x := range []impl.Instr{
			pair(impl.OpAdd, 8, place, ofReg(1)), pair(impl.OpAdd, 8, ofReg(1), place), pair(impl.OpCmp, 4, place, ofNumber(7)), pair(impl.OpMov, 4, place, ofNumber(7)), pair(impl.OpMov, 2, ofReg(1), place),
			pair(impl.OpTest, 1, place, ofReg(3)), pair(impl.OpXchg, 8, place, ofReg(1)), single(impl.OpNot, 1, place), source(impl.OpMul, 8, place), pair(impl.OpShl, 4, place, ofReg(1)), pair(impl.OpImul, 2, ofReg(3), place),
			extend(impl.OpMovzx, 4, 1, ofReg(0), place), extend(impl.OpMovsx, 8, 4, ofReg(0), place), source(impl.OpPush, 8, place), single(impl.OpPop, 8, place), source(impl.OpCall, 8, place), source(impl.OpJmp, 8, place),
			withCond("a", single(impl.OpSetcc, 1, place)), withCond("a", pair(impl.OpCmov, 8, ofReg(5), place)),
		} {
			checkMemoryOf(t, x, place, true)
		}
		for _, size := range []int{2, 4, 8} {
			checkMemoryOf(t, pair(impl.OpLea, size, ofReg(3), place), impl.Operand{}, false)
		}
	}
	for _, x := range []impl.Instr{pair(impl.OpAdd, 8, ofReg(3), ofReg(4)), pair(impl.OpMov, 8, ofReg(3), ofNumber(512)), single(impl.OpPop, 8, ofReg(3)), source(impl.OpPush, 8, ofNumber(2)), source(impl.OpDiv, 1, ofReg(3)), source(impl.OpCall, 8, ofNumber(2)),
		{Op: impl.OpRet}, {Op: impl.OpStos, Size: 1}, {Op: impl.OpMovs, Size: 1}, {Op: impl.OpNop}, {Op: impl.OpCwide, Size: 8}, source(impl.OpInt, 0, ofNumber(2)), source(impl.OpJcc, 0, ofNumber(2))} {
		checkMemoryOf(t, x, impl.Operand{}, false)
	}
}

// TestMaskOf: an and of Size 4 of each register and any number, and what is nearly one.
func TestMaskOf(t *testing.T) {
	for reg := range 16 {
		for _, n := range []int{0, 1, 4064, 4095, 4096, 127, 128, -1, -128, -129, math.MaxInt32, math.MinInt32} {
			x := pair(impl.OpAnd, 4, ofReg(reg), ofNumber(n))
			for _, x.Len = range []int{0, 3, 15} {
				checkMaskOf(t, x, reg, n, true)
			}
			for _, size := range []int{2, 8} {
				if x.Size = size; impl.InstrOK(x) {
					checkMaskOf(t, x, 0, 0, false)
				}
			}
		}
		checkMaskOf(t, pair(impl.OpAnd, 1, ofReg(reg), ofNumber(31)), 0, 0, false)
		for _, src := range []impl.Operand{ofReg(reg), ofReg(1), ofReg(15), at3} {
			checkMaskOf(t, pair(impl.OpAnd, 4, ofReg(reg), src), 0, 0, false)
		}
		for op := impl.OpAdd; op <= impl.OpMov; op++ {
			if op != impl.OpAnd {
				checkMaskOf(t, pair(op, 4, ofReg(reg), ofNumber(4095)), 0, 0, false)
			}
		}
		checkMaskOf(t, pair(impl.OpTest, 4, ofReg(reg), ofNumber(4095)), 0, 0, false)
		checkMaskOf(t, pair(impl.OpShr, 4, ofReg(reg), ofNumber(31)), 0, 0, false)
	}
	for _, place := range []impl.Operand{at3, onStack(0), ofMemory(impl.RegRip, -1, 1, 0)} {
		checkMaskOf(t, pair(impl.OpAnd, 4, place, ofNumber(4095)), 0, 0, false)
		checkMaskOf(t, pair(impl.OpAnd, 4, place, ofReg(9)), 0, 0, false)
	}
	checkMaskOf(t, pair(impl.OpAnd, 1, ofReg(16), ofNumber(15)), 0, 0, false)
	checkMaskOf(t, source(impl.OpPush, 8, ofNumber(4095)), 0, 0, false)
	checkMaskOf(t, impl.Instr{Op: impl.OpNop}, 0, 0, false)
}

// TestBaseAddOf: an add of Size 8 of each register and register 15, and what is nearly one.
func TestBaseAddOf(t *testing.T) {
	base := ofReg(15)
	for reg := range 16 {
		x := pair(impl.OpAdd, 8, ofReg(reg), base)
		for _, x.Len = range []int{0, 3, 15} {
			checkBaseAddOf(t, x, reg, true)
		}
		for other := range 15 {
			checkBaseAddOf(t, pair(impl.OpAdd, 8, ofReg(reg), ofReg(other)), 0, false)
		}
		for _, size := range []int{1, 2, 4} {
			checkBaseAddOf(t, pair(impl.OpAdd, size, ofReg(reg), base), 0, false)
		}
		for _, op := range []int{impl.OpOr, impl.OpAdc, impl.OpSbb, impl.OpAnd, impl.OpSub, impl.OpXor, impl.OpCmp, impl.OpMov, impl.OpTest, impl.OpXchg, impl.OpImul} {
			checkBaseAddOf(t, pair(op, 8, ofReg(reg), base), 0, false)
		}
		for _, src := range []impl.Operand{ofNumber(15), ofNumber(0), ofMemory(15, -1, 1, 0), ofMemory(-1, 15, 1, 0)} {
			checkBaseAddOf(t, pair(impl.OpAdd, 8, ofReg(reg), src), 0, false)
		}
	}
	for _, place := range []impl.Operand{at3, ofMemory(15, -1, 1, 0), ofMemory(-1, -1, 1, 15)} {
		checkBaseAddOf(t, pair(impl.OpAdd, 8, place, base), 0, false)
		checkBaseAddOf(t, pair(impl.OpAdd, 8, place, ofNumber(15)), 0, false)
	}
	for _, x := range []impl.Instr{source(impl.OpPush, 8, base), source(impl.OpMul, 8, base), single(impl.OpInc, 8, base), {Op: impl.OpRet}, pair(impl.OpLea, 8, ofReg(3), ofMemory(3, 15, 1, 0))} {
		checkBaseAddOf(t, x, 0, false)
	}
}

func goers() []impl.Instr {
	return []impl.Instr{source(impl.OpCall, 8, ofNumber(0)), source(impl.OpJmp, 8, ofNumber(0)), source(impl.OpJcc, 0, ofNumber(0)), withCond("g", source(impl.OpJcc, 0, ofNumber(0)))}
}

// TestGoalOf: at, Len and the number together, wherever that is, and what has no goal.
func TestGoalOf(t *testing.T) {
	for _, x := range goers() {
		for _, v := range []struct{ at, length, n, goal int }{
			{0, 0, 0, 0}, {0, 5, 0, 5}, {0, 0, -1, -1}, {100, 5, -105, 0}, {100, 5, -106, -1}, {100, 2, -2, 100}, {100, 15, 1, 116}, {100, 0, 1, 101}, {16896, 6, 26, 16928},
			{impl.MaxAddress, 0, 0, 65535}, {impl.MaxAddress, 1, 0, 65536}, {impl.MaxAddress, 15, math.MaxInt32, 65535 + 15 + 1<<31 - 1}, {0, 0, math.MinInt32, -1 << 31}, {65534, 1, 0, 65535}, {1, 0, 0, 1},
		} {
			x.Len, x.Src.Imm = v.length, v.n
			checkGoalOf(t, x, v.at, v.goal, true)
		}
	}
	for _, x := range []impl.Instr{source(impl.OpCall, 8, ofReg(1)), source(impl.OpCall, 8, at3), source(impl.OpJmp, 8, ofReg(0)), source(impl.OpJmp, 8, ofMemory(impl.RegRip, -1, 1, 5)), source(impl.OpPush, 8, ofNumber(5)), source(impl.OpInt, 0, ofNumber(5)),
		pair(impl.OpMov, 8, ofReg(0), ofNumber(5)), pair(impl.OpAnd, 4, ofReg(0), ofNumber(5)), pair(impl.OpShl, 4, ofReg(0), ofNumber(5)), {Op: impl.OpRet}, {Op: impl.OpNop}, {Op: impl.OpHlt}, {Op: impl.OpSyscall},
		withCond("e", single(impl.OpSetcc, 1, ofReg(0))), withCond("e", pair(impl.OpCmov, 4, ofReg(0), ofReg(1)))} {
		for _, x.Len = range []int{0, 5} {
			for _, at := range []int{0, 1, 16896, impl.MaxAddress} {
				checkGoalOf(t, x, at, 0, false)
			}
		}
	}
}

// TestThroughOf: a call or jump of each register, and of memory.
func TestThroughOf(t *testing.T) {
	for _, op := range []int{impl.OpCall, impl.OpJmp} {
		list := []impl.Operand{at3, onStack(8), ofMemory(impl.RegRip, -1, 1, 0), ofMemory(-1, -1, 1, 0), ofMemory(-1, 3, 8, -1)}
		for reg := range 16 {
			list = append(list, ofReg(reg))
		}
		for _, src := range list {
			x := source(op, 8, src)
			for _, x.Len = range []int{0, 2, 15} {
				checkThroughOf(t, x, src, true)
			}
		}
	}
	for _, x := range goers() {
		checkThroughOf(t, x, impl.Operand{}, false)
	}
	for _, x := range []impl.Instr{source(impl.OpPush, 8, ofReg(1)), source(impl.OpPush, 8, at3), single(impl.OpPop, 8, ofReg(1)), source(impl.OpMul, 8, ofReg(1)), source(impl.OpIdiv, 8, at3), pair(impl.OpMov, 8, ofReg(0), ofReg(1)), {Op: impl.OpRet}, {Op: impl.OpSyscall},
		source(impl.OpInt, 0, ofNumber(3)), single(impl.OpInc, 8, at3), {Op: impl.OpNop}} {
		checkThroughOf(t, x, impl.Operand{}, false)
	}
}
