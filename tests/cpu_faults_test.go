package tests

import (
	"math"
	"math/rand"
	"slices"
	"testing"

	"loop.example/g00664/impl"
)

// at3 is memory where register 3 points to.
var at3 = ofMemory(3, -1, 1, 0)

// TestFaultsOfReads: the first read of each kind of instruction fails, with its Value 0, and it is the last access.
func TestFaultsOfReads(t *testing.T) {
	var list []execCase
	for _, v := range []struct{ at, size, code int }{{handGap, 1, impl.ErrPage}, {handGap + 8, 2, impl.ErrPage}, {handData - 1, 8, impl.ErrPage}, {handRead + 250, 8, impl.ErrPerm}, {handWrite, 4, impl.ErrPerm}, {handGap - 1, 2, impl.ErrPerm}} {
		regs, told := map[int]int{0: 0, 3: v.at}, accesses(readOf(v.at, v.size, 0))
		for _, op := range []int{impl.OpAdd, impl.OpOr, impl.OpAdc, impl.OpSbb, impl.OpAnd, impl.OpSub, impl.OpXor, impl.OpCmp} {
			list = append(list, execCase{x: pair(op, v.size, at3, ofReg(1)), regs: regs, told: told, code: v.code},
				execCase{x: pair(op, v.size, ofReg(1), at3), regs: regs, told: told, code: v.code}, execCase{x: pair(op, v.size, at3, ofNumber(1)), regs: regs, told: told, code: v.code})
		}
		for _, op := range []int{impl.OpTest, impl.OpXchg, impl.OpRol, impl.OpRor, impl.OpShl, impl.OpShr, impl.OpSar} {
			list = append(list, execCase{x: pair(op, v.size, at3, ofReg(1)), regs: regs, told: told, code: v.code})
		}
		for _, op := range []int{impl.OpNot, impl.OpNeg, impl.OpInc, impl.OpDec} {
			list = append(list, execCase{x: single(op, v.size, at3), regs: regs, told: told, code: v.code})
		}
		for _, op := range []int{impl.OpMul, impl.OpImul1, impl.OpDiv, impl.OpIdiv} {
			list = append(list, execCase{x: source(op, v.size, at3), regs: regs, told: told, code: v.code})
		}
		list = append(list, execCase{x: pair(impl.OpMov, v.size, ofReg(1), at3), regs: regs, told: told, code: v.code})
		if v.size > 1 {
			list = append(list, execCase{x: pair(impl.OpImul, v.size, ofReg(1), at3), regs: regs, told: told, code: v.code},
				execCase{x: withCond("e", pair(impl.OpCmov, v.size, ofReg(1), at3)), regs: regs, flags: ">", told: told, code: v.code},
				execCase{x: withCond("e", pair(impl.OpCmov, v.size, ofReg(1), at3)), regs: regs, flags: "Z>Z", told: told, code: v.code})
		}
		if v.size < 4 {
			list = append(list, execCase{x: extend(impl.OpMovzx, 8, v.size, ofReg(1), at3), regs: regs, told: told, code: v.code})
		}
		if v.size < 8 {
			list = append(list, execCase{x: extend(impl.OpMovsx, 8, v.size, ofReg(1), at3), regs: regs, told: told, code: v.code})
		}
		if v.size == 8 {
			for _, op := range []int{impl.OpPush, impl.OpCall, impl.OpJmp} {
				list = append(list, execCase{x: source(op, 8, at3), regs: regs, told: told, code: v.code})
			}
			list = append(list, execCase{x: single(impl.OpPop, 8, ofReg(0)), regs: map[int]int{4: v.at}, told: told, code: v.code},
				execCase{x: single(impl.OpPop, 8, atData), regs: map[int]int{4: v.at, 3: handGap}, told: told, code: v.code},
				execCase{x: impl.Instr{Op: impl.OpRet}, regs: map[int]int{4: v.at}, told: told, code: v.code})
		}
		if v.size == 1 {
			list = append(list, execCase{x: impl.Instr{Op: impl.OpMovs, Size: 1}, regs: map[int]int{6: v.at, 7: 1100}, told: told, code: v.code},
				execCase{x: impl.Instr{Op: impl.OpMovs, Size: 1}, regs: map[int]int{6: v.at, 7: handGap}, told: told, code: v.code})
		}
	}
	checkCases(t, list)
}

// TestFaultsOfWrites: what was read ahead is told, and then the write that failed, with its Value.
func TestFaultsOfWrites(t *testing.T) {
	onRead := map[int]int{3: handRead, 9: 5}
	cells := map[int]int{handRead: 0x81}
	checkCases(t, []execCase{
		{x: pair(impl.OpAdd, 4, at3, ofReg(9)), regs: onRead, cells: cells, told: accesses(readOf(handRead, 4, 0x81), writeOf(handRead, 4, 0x86)), code: impl.ErrPerm},
		{x: pair(impl.OpAdc, 1, at3, ofNumber(-1)), regs: onRead, cells: cells, flags: "C>", told: accesses(readOf(handRead, 1, 0x81), writeOf(handRead, 1, 0x81)), code: impl.ErrPerm},
		{x: pair(impl.OpXor, 8, at3, ofNumber(-1)), regs: onRead, cells: cells, told: accesses(readOf(handRead, 8, 0x81), writeOf(handRead, 8, -0x82)), code: impl.ErrPerm},
		{x: single(impl.OpNot, 2, at3), regs: onRead, cells: cells, told: accesses(readOf(handRead, 2, 0x81), writeOf(handRead, 2, 0xff7e)), code: impl.ErrPerm},
		{x: single(impl.OpDec, 8, at3), regs: onRead, cells: cells, told: accesses(readOf(handRead, 8, 0x81), writeOf(handRead, 8, 0x80)), code: impl.ErrPerm},
		{x: pair(impl.OpShl, 1, at3, ofNumber(1)), regs: onRead, cells: cells, told: accesses(readOf(handRead, 1, 0x81), writeOf(handRead, 1, 2)), code: impl.ErrPerm},
		{x: pair(impl.OpShl, 1, at3, ofNumber(0)), regs: onRead, cells: cells, told: accesses(readOf(handRead, 1, 0x81), writeOf(handRead, 1, 0x81)), code: impl.ErrPerm},
		{x: pair(impl.OpXchg, 8, at3, ofReg(9)), regs: onRead, cells: cells, told: accesses(readOf(handRead, 8, 0x81), writeOf(handRead, 8, 5)), code: impl.ErrPerm},
		{x: pair(impl.OpMov, 8, at3, ofReg(9)), regs: onRead, told: accesses(writeOf(handRead, 8, 5)), code: impl.ErrPerm},
		{x: pair(impl.OpMov, 4, at3, ofNumber(-1)), regs: map[int]int{3: handGap}, told: accesses(writeOf(handGap, 4, 0xffffffff)), code: impl.ErrPage},
		{x: pair(impl.OpMov, 8, at3, ofReg(9)), regs: map[int]int{3: handGap - 7, 9: -5}, told: accesses(writeOf(handGap-7, 8, -5)), code: impl.ErrPage},
		{x: pair(impl.OpMov, 8, at3, ofReg(9)), regs: map[int]int{3: handRead - 7, 9: -5}, told: accesses(writeOf(handRead-7, 8, -5)), code: impl.ErrPerm},
		{x: withCond("e", single(impl.OpSetcc, 1, at3)), regs: onRead, flags: "Z>", told: accesses(writeOf(handRead, 1, 1)), code: impl.ErrPerm},
		{x: withCond("e", single(impl.OpSetcc, 1, at3)), regs: map[int]int{3: handGap}, flags: ">", told: accesses(writeOf(handGap, 1, 0)), code: impl.ErrPage},
		{x: pair(impl.OpAdd, 2, at3, ofReg(9)), regs: map[int]int{3: handWrite - 1, 9: 5}, told: accesses(readOf(handWrite-1, 2, 0)), code: impl.ErrPerm},
		{x: pair(impl.OpAdd, 2, at3, ofReg(9)), regs: map[int]int{3: handRead - 1, 9: 5}, cells: map[int]int{handRead - 1: 9}, told: accesses(readOf(handRead-1, 2, 9), writeOf(handRead-1, 2, 14)), code: impl.ErrPerm},
		{x: pair(impl.OpCmp, 2, at3, ofReg(9)), regs: map[int]int{3: handRead - 1, 9: 9}, cells: map[int]int{handRead - 1: 9}, flags: ">ZP", told: accesses(readOf(handRead-1, 2, 9))},
		{x: pair(impl.OpTest, 1, at3, ofNumber(1)), regs: onRead, cells: cells, flags: ">", told: accesses(readOf(handRead, 1, 0x81))},
	})
}

// TestFaultsOfTheStack: what was read ahead of a push that fails, or popped ahead of a write that fails, leaves register 4 as it was.
func TestFaultsOfTheStack(t *testing.T) {
	cells := map[int]int{1100: 700, handRead + 16: -9}
	checkCases(t, []execCase{
		{x: source(impl.OpPush, 8, ofReg(9)), regs: map[int]int{4: handRead + 16, 9: 5}, told: accesses(writeOf(handRead+8, 8, 5)), code: impl.ErrPerm},
		{x: source(impl.OpPush, 8, ofReg(4)), regs: map[int]int{4: handData + 7}, told: accesses(writeOf(handData-1, 8, handData+7)), code: impl.ErrPage},
		{x: source(impl.OpPush, 8, ofNumber(-1)), regs: map[int]int{4: handGap + 1}, told: accesses(writeOf(handGap-7, 8, -1)), code: impl.ErrPage},
		{x: source(impl.OpPush, 8, at3), regs: map[int]int{3: 1100, 4: handRead + 16}, cells: cells, told: accesses(readOf(1100, 8, 700), writeOf(handRead+8, 8, 700)), code: impl.ErrPerm},
		{x: source(impl.OpPush, 8, at3), regs: map[int]int{3: handGap, 4: handRead + 16}, told: accesses(readOf(handGap, 8, 0)), code: impl.ErrPage},
		{x: single(impl.OpPop, 8, at3), regs: map[int]int{3: handRead, 4: 1100}, cells: cells, told: accesses(readOf(1100, 8, 700), writeOf(handRead, 8, 700)), code: impl.ErrPerm},
		{x: single(impl.OpPop, 8, at3), regs: map[int]int{3: handGap, 4: 1100}, cells: cells, told: accesses(readOf(1100, 8, 700), writeOf(handGap, 8, 700)), code: impl.ErrPage},
		{x: single(impl.OpPop, 8, onStack(0)), regs: map[int]int{4: handRead + 16}, cells: cells, told: accesses(readOf(handRead+16, 8, -9), writeOf(handRead+24, 8, -9)), code: impl.ErrPerm},
		{x: single(impl.OpPop, 8, ofReg(9)), regs: map[int]int{4: handRead + 16}, cells: cells, then: map[int]int{4: handRead + 24, 9: -9}, told: accesses(readOf(handRead+16, 8, -9))},
		{x: source(impl.OpCall, 8, ofNumber(10)), regs: map[int]int{4: handRead + 16}, told: accesses(writeOf(handRead+8, 8, handRip+5)), code: impl.ErrPerm},
		{x: source(impl.OpCall, 8, ofReg(4)), regs: map[int]int{4: handGap + 16}, told: accesses(writeOf(handGap+8, 8, handRip+2)), code: impl.ErrPage},
		{x: source(impl.OpCall, 8, at3), regs: map[int]int{3: 1100, 4: handRead + 16}, cells: cells, told: accesses(readOf(1100, 8, 700), writeOf(handRead+8, 8, handRip+2)), code: impl.ErrPerm},
		{x: source(impl.OpCall, 8, at3), regs: map[int]int{3: handWrite, 4: handGap}, told: accesses(readOf(handWrite, 8, 0)), code: impl.ErrPerm},
		{x: impl.Instr{Op: impl.OpRet}, regs: map[int]int{4: handRead + 16}, cells: cells, then: map[int]int{4: handRead + 24, ripKey: -9}, told: accesses(readOf(handRead+16, 8, -9))},
		{x: impl.Instr{Op: impl.OpStos, Size: 1}, regs: map[int]int{0: 0x177, 7: handRead}, told: accesses(writeOf(handRead, 1, 0x77)), code: impl.ErrPerm},
		{x: impl.Instr{Op: impl.OpStos, Size: 1}, regs: map[int]int{0: 0x177, 7: handGap}, told: accesses(writeOf(handGap, 1, 0x77)), code: impl.ErrPage},
		{x: impl.Instr{Op: impl.OpMovs, Size: 1}, regs: map[int]int{6: 1100, 7: handRead}, cells: cells, told: accesses(readOf(1100, 1, 700&255), writeOf(handRead, 1, 700&255)), code: impl.ErrPerm},
		{x: impl.Instr{Op: impl.OpMovs, Size: 1}, regs: map[int]int{6: 1100, 7: handGap}, cells: cells, told: accesses(readOf(1100, 1, 700&255), writeOf(handGap, 1, 700&255)), code: impl.ErrPage},
		{x: impl.Instr{Op: impl.OpMovs, Size: 1}, regs: map[int]int{6: handWrite, 7: handGap}, told: accesses(readOf(handWrite, 1, 0)), code: impl.ErrPerm},
	})
}

// faultInstrs are instructions that reach for memory: at register 3, at register 4, at 6 and 7.
func faultInstrs(m *encodings) []impl.Instr {
	var list []impl.Instr
	for op := impl.OpAdd; op <= impl.OpInt; op++ {
		for _, size := range instrSizes[:5] {
			for _, from := range fromsOf(op) {
				for _, other := range []impl.Operand{{}, ofReg(1), ofReg(2), ofReg(4), ofReg(16), ofNumber(0), ofNumber(-5), ofNumber(9)} {
					for _, x := range []impl.Instr{{Dst: at3, Src: other}, {Dst: other, Src: at3}, {Src: other}, {Dst: other}, {Dst: onStack(8), Src: other}, {Dst: other, Src: onStack(-3)}} {
						x.Op, x.Size, x.From, x.Len = op, size, from, 1+op%15
						if m.mayBe(x) {
							list = append(list, x)
						}
					}
				}
			}
		}
	}
	return list
}

// TestAnyFaults has instructions that reach for memory about the ends of pages of any two Perms, and looks that each access of them fails with each code.
func TestAnyFaults(t *testing.T) {
	list, memories := faultInstrs(newEncodings(t)), pairs()
	type fault struct{ op, access, code int }
	seen := map[fault]int{}
	source := rand.New(rand.NewSource(7))
	edge := func() int { return 768 - 9 + source.Intn(19) + (source.Intn(3)-1)*256 }
	for range 60000 {
		x, m := list[source.Intn(len(list))], memories[source.Intn(len(memories))]
		c := fullCpu()
		c.Flags = flagSums()[source.Intn(32)]
		c.Regs[1] = source.Intn(1 << 10)
		c.Regs[3], c.Regs[4], c.Regs[6], c.Regs[7] = edge(), edge(), edge(), edge()
		got := checkExec(t, c, m, x)
		seen[fault{x.Op, len(got.told), got.code}]++
	}
	for _, v := range []struct {
		first, last int
		access      []int
	}{{impl.OpAdd, impl.OpXor, []int{1, 2}}, {impl.OpCmp, impl.OpCmp, []int{1}}, {impl.OpMov, impl.OpMov, []int{1}}, {impl.OpNot, impl.OpNeg, []int{1, 2}}, {impl.OpMul, impl.OpImul, []int{1}}, {impl.OpInc, impl.OpSar, []int{1, 2}},
		{impl.OpMovzx, impl.OpMovsx, []int{1}}, {impl.OpXchg, impl.OpCall, []int{1, 2}}, {impl.OpJmp, impl.OpJmp, []int{1}}, {impl.OpRet, impl.OpCmov, []int{1}}, {impl.OpStos, impl.OpStos, []int{1}}, {impl.OpMovs, impl.OpMovs, []int{1, 2}}} {
		for op := v.first; op <= v.last; op++ {
			for _, access := range v.access {
				perm := seen[fault{op, access, impl.ErrPerm}]
				// Where a page can be read, it is there to be written, too: then there is no ErrPage, but of another address.
				other := access == 2 && !slices.Contains([]int{impl.OpPush, impl.OpPop, impl.OpCall, impl.OpMovs}, op)
				if page := seen[fault{op, access, impl.ErrPage}]; perm == 0 || (page == 0) != other {
					t.Errorf("access %d of %s had ErrPerm %d times, ErrPage %d times", access, impl.OpName(op), perm, page)
				}
			}
			if seen[fault{op, len(v.access), impl.OK}] == 0 {
				t.Errorf("%s had no time without a fault", impl.OpName(op))
			}
		}
	}
}

// TestFaultsOfDivision: a read that fails comes ahead of ErrDivide, and one that does not is told beside it.
func TestFaultsOfDivision(t *testing.T) {
	for _, op := range divideOps {
		for _, size := range sizes {
			nought := map[int]int{1100: 0}
			checkCases(t, []execCase{
				{x: source(op, size, at3), regs: map[int]int{0: 0, 2: 0, 3: 1100}, cells: nought, told: accesses(readOf(1100, size, 0)), code: impl.ErrDivide},
				{x: source(op, size, at3), regs: map[int]int{0: 0, 2: 0, 3: handWrite}, told: accesses(readOf(handWrite, size, 0)), code: impl.ErrPerm},
				{x: source(op, size, at3), regs: map[int]int{0: 0, 2: 0, 3: handGap}, told: accesses(readOf(handGap, size, 0)), code: impl.ErrPage},
				{x: source(op, size, ofReg(9)), regs: map[int]int{0: 7, 2: 0, 9: 0}, code: impl.ErrDivide},
			})
		}
	}
	checkCases(t, []execCase{
		{x: source(impl.OpDiv, 8, at3), regs: map[int]int{0: 0, 2: 5, 3: 1100}, cells: map[int]int{1100: 5}, told: accesses(readOf(1100, 8, 5)), code: impl.ErrDivide},
		{x: source(impl.OpDiv, 8, at3), regs: map[int]int{0: 9, 2: 4, 3: 1100}, cells: map[int]int{1100: 5}, then: map[int]int{0: -0x3333333333333332, 2: 3}, told: accesses(readOf(1100, 8, 5))},
		{x: source(impl.OpIdiv, 4, ofReg(9)), regs: map[int]int{0: math.MinInt32, 2: -1, 9: -1}, code: impl.ErrDivide},
		{x: source(impl.OpIdiv, 4, ofReg(9)), regs: map[int]int{0: math.MinInt32, 2: -1, 9: 1}, then: map[int]int{0: 0x80000000, 2: 0}},
	})
}
