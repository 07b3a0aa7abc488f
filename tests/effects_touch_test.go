package tests

import (
	"slices"
	"testing"

	"loop.example/g00664/impl"
)

// touchedCase is an instruction, the registers that it writes, and what else it touches: r reads memory, w writes it, s is the stack.
type touchedCase struct {
	x    impl.Instr
	regs []int
	ways string
}

func checkTouches(t *testing.T, list []touchedCase) {
	t.Helper()
	for _, v := range list {
		want := impl.Touch{Regs: v.regs}
		for _, way := range v.ways {
			switch way {
			case 'r':
				want.Reads = true
			case 'w':
				want.Writes = true
			case 's':
				want.Stack = true
			}
		}
		for _, v.x.Len = range []int{0, 1, 15} {
			checkTouch(t, v.x, want)
		}
	}
}

func TestTouchOfSums(t *testing.T) {
	checkTouches(t, []touchedCase{
		{pair(impl.OpAdd, 8, ofReg(2), ofReg(5)), []int{2}, ""},
		{pair(impl.OpAdd, 8, ofReg(2), ofNumber(5)), []int{2}, ""},
		{pair(impl.OpAdd, 8, ofReg(2), at3), []int{2}, "r"},
		{pair(impl.OpAdd, 8, at3, ofReg(2)), nil, "rw"},
		{pair(impl.OpXor, 1, at3, ofNumber(2)), nil, "rw"},
		{pair(impl.OpAnd, 4, ofReg(15), ofNumber(-1)), []int{15}, ""},
		{pair(impl.OpSbb, 2, ofReg(4), ofMemory(impl.RegRip, -1, 1, 0)), []int{4}, "r"},
		{pair(impl.OpImul, 4, ofReg(9), ofReg(0)), []int{9}, ""},
		{pair(impl.OpImul, 4, ofReg(9), at3), []int{9}, "r"},
	})
}

// TestTouchOfComparisons: a Dst that is not written.
func TestTouchOfComparisons(t *testing.T) {
	for _, op := range []int{impl.OpCmp, impl.OpTest} {
		for _, size := range sizes {
			checkTouches(t, []touchedCase{
				{pair(op, size, ofReg(2), ofReg(5)), nil, ""},
				{pair(op, size, ofReg(4), ofNumber(5)), nil, ""},
				{pair(op, size, at3, ofReg(15)), nil, "r"},
				{pair(op, size, at3, ofNumber(5)), nil, "r"},
			})
		}
	}
	checkTouches(t, []touchedCase{{pair(impl.OpCmp, 8, ofReg(2), at3), nil, "r"}, {pair(impl.OpCmp, 1, ofReg(17), ofReg(16)), nil, ""}, {pair(impl.OpTest, 1, ofReg(19), ofNumber(1)), nil, ""}})
}

func TestTouchOfOneOperand(t *testing.T) {
	for _, op := range []int{impl.OpNot, impl.OpNeg, impl.OpInc, impl.OpDec} {
		for _, size := range sizes {
			checkTouches(t, []touchedCase{{single(op, size, ofReg(11)), []int{11}, ""}, {single(op, size, at3), nil, "rw"}})
		}
		checkTouches(t, []touchedCase{{single(op, 1, ofReg(18)), []int{2}, ""}})
	}
	for _, op := range []int{impl.OpRol, impl.OpRor, impl.OpShl, impl.OpShr, impl.OpSar} {
		for _, count := range []impl.Operand{ofReg(1), ofNumber(0), ofNumber(255)} {
			checkTouches(t, []touchedCase{{pair(op, 8, ofReg(6), count), []int{6}, ""}, {pair(op, 1, ofReg(16), count), []int{0}, ""}, {pair(op, 2, at3, count), nil, "rw"}})
		}
	}
}

// TestTouchWithoutNames: registers that are written without a name, also where they are operands, too.
func TestTouchWithoutNames(t *testing.T) {
	for _, op := range []int{impl.OpMul, impl.OpImul1, impl.OpDiv, impl.OpIdiv} {
		checkTouches(t, []touchedCase{
			{source(op, 1, ofReg(9)), []int{0}, ""}, {source(op, 1, ofReg(2)), []int{0}, ""}, {source(op, 1, ofReg(18)), []int{0}, ""}, {source(op, 1, at3), []int{0}, "r"},
			{source(op, 2, ofReg(9)), []int{0, 2}, ""}, {source(op, 4, ofReg(2)), []int{0, 2}, ""}, {source(op, 8, ofReg(0)), []int{0, 2}, ""},
			{source(op, 2, at3), []int{0, 2}, "r"}, {source(op, 4, ofMemory(2, 0, 1, 0)), []int{0, 2}, "r"}, {source(op, 8, at3), []int{0, 2}, "r"},
		})
	}
	for _, size := range []int{2, 4, 8} {
		checkTouches(t, []touchedCase{{impl.Instr{Op: impl.OpCwide, Size: size}, []int{0}, ""}, {impl.Instr{Op: impl.OpCsign, Size: size}, []int{2}, ""}})
	}
	checkTouches(t, []touchedCase{
		{impl.Instr{Op: impl.OpStos, Size: 1}, []int{7}, "w"},
		{impl.Instr{Op: impl.OpMovs, Size: 1}, []int{6, 7}, "rw"},
	})
}

func TestTouchOfMoves(t *testing.T) {
	checkTouches(t, []touchedCase{
		{pair(impl.OpMov, 8, ofReg(4), ofReg(5)), []int{4}, ""},
		{pair(impl.OpMov, 8, ofReg(15), ofNumber(1<<40)), []int{15}, ""},
		{pair(impl.OpMov, 2, ofReg(3), at3), []int{3}, "r"},
		{pair(impl.OpMov, 4, at3, ofReg(3)), nil, "w"},
		{pair(impl.OpMov, 1, at3, ofNumber(3)), nil, "w"},
		{extend(impl.OpMovzx, 4, 1, ofReg(7), ofReg(17)), []int{7}, ""},
		{extend(impl.OpMovzx, 8, 2, ofReg(7), at3), []int{7}, "r"},
		{extend(impl.OpMovsx, 8, 4, ofReg(12), at3), []int{12}, "r"},
		{extend(impl.OpMovsx, 2, 1, ofReg(12), ofReg(3)), []int{12}, ""},
		// lea reckons with its memory, and does not read it.
		{pair(impl.OpLea, 8, ofReg(13), at3), []int{13}, ""},
		{pair(impl.OpLea, 2, ofReg(0), ofMemory(4, 5, 8, 1)), []int{0}, ""},
		{withCond("o", single(impl.OpSetcc, 1, ofReg(10))), []int{10}, ""},
		{withCond("g", single(impl.OpSetcc, 1, ofReg(19))), []int{3}, ""},
		{withCond("ne", single(impl.OpSetcc, 1, at3)), nil, "w"},
		{withCond("e", pair(impl.OpCmov, 4, ofReg(1), ofReg(2))), []int{1}, ""},
		{withCond("le", pair(impl.OpCmov, 8, ofReg(1), at3)), []int{1}, "r"},
	})
}

// TestTouchOfXchg: both operands are written, and may be one register.
func TestTouchOfXchg(t *testing.T) {
	for _, size := range sizes {
		checkTouches(t, []touchedCase{
			{pair(impl.OpXchg, size, ofReg(9), ofReg(2)), []int{2, 9}, ""},
			{pair(impl.OpXchg, size, ofReg(2), ofReg(9)), []int{2, 9}, ""},
			{pair(impl.OpXchg, size, ofReg(15), ofReg(15)), []int{15}, ""},
			{pair(impl.OpXchg, size, at3, ofReg(4)), []int{4}, "rw"},
		})
	}
	checkTouches(t, []touchedCase{
		{pair(impl.OpXchg, 1, ofReg(3), ofReg(16)), []int{0, 3}, ""},
		{pair(impl.OpXchg, 1, ofReg(16), ofReg(3)), []int{0, 3}, ""},
		{pair(impl.OpXchg, 1, ofReg(19), ofReg(17)), []int{1, 3}, ""},
		{pair(impl.OpXchg, 1, ofReg(16), ofReg(0)), []int{0}, ""},
		{pair(impl.OpXchg, 1, ofReg(2), ofReg(18)), []int{2}, ""},
		{pair(impl.OpXchg, 1, ofReg(17), ofReg(17)), []int{1}, ""},
		{pair(impl.OpXchg, 1, at3, ofReg(18)), []int{2}, "rw"},
	})
}

// TestTouchOfTheStack: register 4 is written without a name, or by its name, too.
func TestTouchOfTheStack(t *testing.T) {
	checkTouches(t, []touchedCase{
		{source(impl.OpPush, 8, ofReg(12)), []int{4}, "ws"},
		{source(impl.OpPush, 8, ofReg(4)), []int{4}, "ws"},
		{source(impl.OpPush, 8, ofNumber(-7)), []int{4}, "ws"},
		{source(impl.OpPush, 8, at3), []int{4}, "rws"},
		{single(impl.OpPop, 8, ofReg(12)), []int{4, 12}, "rs"},
		{single(impl.OpPop, 8, ofReg(0)), []int{0, 4}, "rs"},
		{single(impl.OpPop, 8, ofReg(4)), []int{4}, "rs"},
		{single(impl.OpPop, 8, at3), []int{4}, "rws"},
		{single(impl.OpPop, 8, onStack(8)), []int{4}, "rws"},
		{source(impl.OpCall, 8, ofNumber(5)), []int{4}, "ws"},
		{source(impl.OpCall, 8, ofReg(0)), []int{4}, "ws"},
		{source(impl.OpCall, 8, at3), []int{4}, "rws"},
		{impl.Instr{Op: impl.OpRet}, []int{4}, "rs"},
	})
}

// TestTouchOfNothing: what reads a register, goes elsewhere or ends touches nothing; a jump through memory reads it.
func TestTouchOfNothing(t *testing.T) {
	checkTouches(t, []touchedCase{
		{source(impl.OpJmp, 8, ofNumber(5)), nil, ""},
		{source(impl.OpJmp, 8, ofReg(4)), nil, ""},
		{source(impl.OpJmp, 8, at3), nil, "r"},
		{source(impl.OpJmp, 8, onStack(0)), nil, "r"},
		{withCond("o", source(impl.OpJcc, 0, ofNumber(5))), nil, ""},
		{withCond("g", source(impl.OpJcc, 0, ofNumber(-5))), nil, ""},
		{impl.Instr{Op: impl.OpNop}, nil, ""},
		{impl.Instr{Op: impl.OpHlt}, nil, ""},
		{impl.Instr{Op: impl.OpSyscall}, nil, ""},
		{source(impl.OpInt, 0, ofNumber(128)), nil, ""},
	})
}

// TestEffectsOfAll asks all calls of each operation, with each size and kind of operand that it has.
func TestEffectsOfAll(t *testing.T) {
	e, m := newEffects(t), newEncodings(t)
	ops, told := map[int]int{}, map[string]int{}
	for i, x := range slices.Concat(cpuInstrs(m), fairInstrs(m)) {
		for _, x.Len = range []int{0, i % 16} {
			for call, yes := range e.check(x, i%65536) {
				if yes {
					told[call]++
				}
			}
		}
		ops[x.Op]++
	}
	for op := impl.OpAdd; op <= impl.OpInt; op++ {
		if ops[op] == 0 {
			t.Error("no instruction with", impl.OpName(op))
		}
	}
	if told["memory"] < 1000 || told["mask"] < 20 || told["goal"] < 20 || told["through"] < 20 {
		t.Error("the sweep has", told)
	}
}

// TestEffectsOfEachRegister has each register as each operand.
func TestEffectsOfEachRegister(t *testing.T) {
	e, m := newEffects(t), newEncodings(t)
	count := [20]int{}
	for op := impl.OpAdd; op <= impl.OpInt; op++ {
		for _, size := range instrSizes[:5] {
			for _, from := range fromsOf(op) {
				for reg := range count {
					others := []impl.Operand{{}, ofNumber(9), ofMemory(wholeReg(reg), -1, 1, 0), ofMemory(-1, wholeReg(reg), 2, 0)}
					for other := range count {
						others = append(others, ofReg(other))
					}
					for _, other := range others {
						for _, x := range []impl.Instr{{Dst: ofReg(reg), Src: other}, {Dst: other, Src: ofReg(reg)}} {
							x.Op, x.Size, x.From = op, size, from
							if m.mayBe(x) {
								e.check(x, reg)
								count[reg]++
							}
						}
					}
				}
			}
		}
	}
	for reg, n := range count {
		if n < 100 {
			t.Errorf("register %d is in %d instructions", reg, n)
		}
	}
}
