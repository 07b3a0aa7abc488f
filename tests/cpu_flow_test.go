package tests

import (
	"math"
	"testing"

	"loop.example/g00664/impl"
)

// onStack is memory at register 4, and a displacement.
func onStack(disp int) impl.Operand { return ofMemory(4, -1, 1, disp) }

// TestExecPush: Src is read ahead of register 4 being less.
func TestExecPush(t *testing.T) {
	checkCases(t, []execCase{
		{x: source(impl.OpPush, 8, ofReg(0)), regs: map[int]int{4: 1280, 0: -5}, then: map[int]int{4: 1272}, told: accesses(writeOf(1272, 8, -5))},
		{x: source(impl.OpPush, 8, ofReg(15)), regs: map[int]int{4: 1284, 15: 5}, then: map[int]int{4: 1276}, told: accesses(writeOf(1276, 8, 5))},
		{x: source(impl.OpPush, 8, ofReg(4)), regs: map[int]int{4: 1280}, then: map[int]int{4: 1272}, told: accesses(writeOf(1272, 8, 1280))},
		{x: source(impl.OpPush, 8, ofNumber(-3)), regs: map[int]int{4: 1280}, then: map[int]int{4: 1272}, told: accesses(writeOf(1272, 8, -3))},
		{x: source(impl.OpPush, 8, ofNumber(math.MinInt32)), regs: map[int]int{4: 1280}, then: map[int]int{4: 1272}, told: accesses(writeOf(1272, 8, math.MinInt32))},
		{x: source(impl.OpPush, 8, atData), regs: map[int]int{3: 1100, 4: 1280}, cells: map[int]int{1108: -9}, then: map[int]int{4: 1272}, told: accesses(readOf(1108, 8, -9), writeOf(1272, 8, -9))},
		{x: source(impl.OpPush, 8, onStack(8)), regs: map[int]int{4: 1200}, cells: map[int]int{1208: 77}, then: map[int]int{4: 1192}, told: accesses(readOf(1208, 8, 77), writeOf(1192, 8, 77))},
		{x: source(impl.OpPush, 8, onStack(-8)), regs: map[int]int{4: 1200}, cells: map[int]int{1192: 77}, then: map[int]int{4: 1192}, told: accesses(readOf(1192, 8, 77), writeOf(1192, 8, 77))},
	})
}

// TestExecPop: register 4 is more ahead of Dst, and of Dst's address being reckoned.
func TestExecPop(t *testing.T) {
	checkCases(t, []execCase{
		{x: single(impl.OpPop, 8, ofReg(0)), regs: map[int]int{4: 1200}, cells: map[int]int{1200: -5}, then: map[int]int{0: -5, 4: 1208}, told: accesses(readOf(1200, 8, -5))},
		{x: single(impl.OpPop, 8, ofReg(4)), regs: map[int]int{4: 1200}, cells: map[int]int{1200: 77}, then: map[int]int{4: 77}, told: accesses(readOf(1200, 8, 77))},
		{x: single(impl.OpPop, 8, atData), regs: map[int]int{3: 1100, 4: 1200}, cells: map[int]int{1200: 77}, then: map[int]int{4: 1208}, told: accesses(readOf(1200, 8, 77), writeOf(1108, 8, 77))},
		{x: single(impl.OpPop, 8, onStack(0)), regs: map[int]int{4: 1200}, cells: map[int]int{1200: 77}, then: map[int]int{4: 1208}, told: accesses(readOf(1200, 8, 77), writeOf(1208, 8, 77))},
		{x: single(impl.OpPop, 8, onStack(16)), regs: map[int]int{4: 1200}, cells: map[int]int{1200: -7}, then: map[int]int{4: 1208}, told: accesses(readOf(1200, 8, -7), writeOf(1224, 8, -7))},
		{x: single(impl.OpPop, 8, ofMemory(4, 1, 4, -8)), regs: map[int]int{1: 3, 4: 1200}, cells: map[int]int{1200: -7}, then: map[int]int{4: 1208}, told: accesses(readOf(1200, 8, -7), writeOf(1212, 8, -7))},
	})
}

// TestExecCall: the goal is read ahead of the push, which tells the next address.
func TestExecCall(t *testing.T) {
	checkCases(t, []execCase{
		{x: source(impl.OpCall, 8, ofNumber(100)), regs: map[int]int{4: 1280}, then: map[int]int{4: 1272, ripKey: handRip + 105}, told: accesses(writeOf(1272, 8, handRip+5))},
		{x: source(impl.OpCall, 8, ofNumber(-1000)), regs: map[int]int{4: 1280}, then: map[int]int{4: 1272, ripKey: handRip + 5 - 1000}, told: accesses(writeOf(1272, 8, handRip+5))},
		{x: source(impl.OpCall, 8, ofReg(0)), regs: map[int]int{0: -5, 4: 1280}, then: map[int]int{4: 1272, ripKey: -5}, told: accesses(writeOf(1272, 8, handRip+2))},
		{x: source(impl.OpCall, 8, ofReg(9)), regs: map[int]int{9: 700, 4: 1280}, then: map[int]int{4: 1272, ripKey: 700}, told: accesses(writeOf(1272, 8, handRip+3))},
		{x: source(impl.OpCall, 8, ofReg(4)), regs: map[int]int{4: 1280}, then: map[int]int{4: 1272, ripKey: 1280}, told: accesses(writeOf(1272, 8, handRip+2))},
		{x: source(impl.OpCall, 8, atData), regs: map[int]int{3: 1100, 4: 1280}, cells: map[int]int{1108: 700}, then: map[int]int{4: 1272, ripKey: 700}, told: accesses(readOf(1108, 8, 700), writeOf(1272, 8, handRip+3))},
		{x: source(impl.OpCall, 8, onStack(-8)), regs: map[int]int{4: 1280}, cells: map[int]int{1272: 700}, then: map[int]int{4: 1272, ripKey: 700}, told: accesses(readOf(1272, 8, 700), writeOf(1272, 8, handRip+4))},
		{x: source(impl.OpCall, 8, onStack(0)), regs: map[int]int{4: 1200}, cells: map[int]int{1200: 700}, then: map[int]int{4: 1192, ripKey: 700}, told: accesses(readOf(1200, 8, 700), writeOf(1192, 8, handRip+3))},
		{x: impl.Instr{Op: impl.OpRet}, regs: map[int]int{4: 1200}, cells: map[int]int{1200: -5}, then: map[int]int{4: 1208, ripKey: -5}, told: accesses(readOf(1200, 8, -5))},
	})
}

func TestExecJumps(t *testing.T) {
	checkCases(t, []execCase{
		{x: source(impl.OpJmp, 8, ofNumber(0)), then: map[int]int{ripKey: handRip + 5}},
		{x: source(impl.OpJmp, 8, ofNumber(-5)), then: map[int]int{ripKey: handRip}},
		{x: source(impl.OpJmp, 8, ofNumber(math.MaxInt32)), then: map[int]int{ripKey: handRip + 5 + math.MaxInt32}},
		{x: source(impl.OpJmp, 8, ofNumber(math.MinInt32)), then: map[int]int{ripKey: handRip + 5 + math.MinInt32}},
		{x: source(impl.OpJmp, 8, ofReg(0)), regs: map[int]int{0: math.MinInt}, then: map[int]int{ripKey: math.MinInt}},
		{x: source(impl.OpJmp, 8, ofReg(12)), regs: map[int]int{12: 16384}, then: map[int]int{ripKey: 16384}},
		{x: source(impl.OpJmp, 8, atData), regs: map[int]int{3: 1100}, cells: map[int]int{1108: -4}, then: map[int]int{ripKey: -4}, told: accesses(readOf(1108, 8, -4))},
		{x: source(impl.OpJmp, 8, ofMemory(impl.RegRip, -1, 1, 500)), cells: map[int]int{handRip + 506: 41}, then: map[int]int{ripKey: 41}, told: accesses(readOf(handRip+506, 8, 41))},
		{x: withCond("e", source(impl.OpJcc, 0, ofNumber(-4))), flags: "Z>Z", then: map[int]int{ripKey: handRip + 2}},
		{x: withCond("e", source(impl.OpJcc, 0, ofNumber(-4))), flags: "CPSO>CPSO"},
		{x: withCond("ne", source(impl.OpJcc, 0, ofNumber(500))), flags: ">", then: map[int]int{ripKey: handRip + 506}},
		{x: withCond("ne", source(impl.OpJcc, 0, ofNumber(500))), flags: "Z>Z"},
		{x: impl.Instr{Op: impl.OpNop}},
		{x: impl.Instr{Op: impl.OpHlt}, code: impl.ErrHalt},
		{x: impl.Instr{Op: impl.OpSyscall}, code: impl.ErrTrap},
		{x: source(impl.OpInt, 0, ofNumber(128)), code: impl.ErrTrap},
		{x: source(impl.OpInt, 0, ofNumber(3)), code: impl.ErrTrap},
	})
}

// TestExecStosAndMovs: registers 6 and 7 are one more in full.
func TestExecStosAndMovs(t *testing.T) {
	stos, movs := impl.Instr{Op: impl.OpStos, Size: 1}, impl.Instr{Op: impl.OpMovs, Size: 1}
	checkCases(t, []execCase{
		{x: stos, regs: map[int]int{0: 0x1234, 7: 1100}, then: map[int]int{7: 1101}, told: accesses(writeOf(1100, 1, 0x34))},
		{x: stos, regs: map[int]int{0: -1, 7: 1279}, then: map[int]int{7: 1280}, told: accesses(writeOf(1279, 1, 255))},
		{x: stos, regs: map[int]int{0: 0x100, 7: handWrite}, then: map[int]int{7: handWrite + 1}, told: accesses(writeOf(handWrite, 1, 0))},
		{x: movs, regs: map[int]int{6: 1100, 7: 1200}, cells: map[int]int{1100: 0xf234}, then: map[int]int{6: 1101, 7: 1201}, told: accesses(readOf(1100, 1, 0x34), writeOf(1200, 1, 0x34))},
		{x: movs, regs: map[int]int{6: 1101, 7: 1101}, cells: map[int]int{1100: 0xf234}, then: map[int]int{6: 1102, 7: 1102}, told: accesses(readOf(1101, 1, 0xf2), writeOf(1101, 1, 0xf2))},
		{x: movs, regs: map[int]int{6: handRead + 8, 7: handWrite}, cells: map[int]int{handRead + 8: 200}, then: map[int]int{6: handRead + 9, 7: handWrite + 1}, told: accesses(readOf(handRead+8, 1, 200), writeOf(handWrite, 1, 200))},
	})
}

// TestFilling goes on with stos and movs by steps over the end of a page, from what was stored ahead.
func TestFilling(t *testing.T) {
	m := laidByHand(handMemory(), handRip, "\xaa\xa4\xaa\xa4")
	c := impl.Cpu{Rip: handRip}
	c.Regs[0], c.Regs[6], c.Regs[7] = 0x1fe, 1278, 1278
	var told []impl.Access
	for range 4 {
		var list []impl.Access
		var code int
		if c, m, list, code = impl.StepCpu(c, m); code != impl.OK {
			t.Fatal("a code", code)
		}
		told = append(told, list[1:]...)
	}
	then := impl.Cpu{Rip: handRip + 4}
	then.Regs[0], then.Regs[6], then.Regs[7] = 0x1fe, 1280, 1282
	want := accesses(writeOf(1278, 1, 254), readOf(1278, 1, 254), writeOf(1279, 1, 254), writeOf(1280, 1, 254), readOf(1279, 1, 254), writeOf(1281, 1, 254))
	got := outcome{c, impl.Memory{}, told, impl.OK}
	if !got.like(outcome{then, impl.Memory{}, want, impl.OK}) {
		t.Error(got.short())
	}
}

// farCases have registers at which addresses go over 2 to the 63 or 2 to the 64; memory is at small ones alone.
func farCases() []execCase {
	return []execCase{
		{x: pair(impl.OpMov, 8, ofReg(0), ofMemory(3, 1, 8, 0)), regs: map[int]int{3: 1108 - 64, 1: 1<<61 + 8}, cells: map[int]int{1108: 5}, then: map[int]int{0: 5}, told: accesses(readOf(1108, 8, 5))},
		{x: pair(impl.OpMov, 8, ofReg(0), ofMemory(3, 1, 1, 0)), regs: map[int]int{3: -100, 1: 1208}, cells: map[int]int{1108: 5}, then: map[int]int{0: 5}, told: accesses(readOf(1108, 8, 5))},
		{x: pair(impl.OpMov, 8, ofReg(0), ofMemory(3, 1, 1, 1000)), regs: map[int]int{3: math.MinInt, 1: math.MinInt + 108}, cells: map[int]int{1108: 5}, then: map[int]int{0: 5}, told: accesses(readOf(1108, 8, 5))},
		{x: pair(impl.OpMov, 8, ofReg(0), ofMemory(3, -1, 1, 8)), regs: map[int]int{3: math.MaxInt - 3}, told: accesses(readOf(math.MinInt+4, 8, 0)), code: impl.ErrPage},
		{x: pair(impl.OpMov, 8, ofMemory(3, -1, 1, -8), ofReg(0)), regs: map[int]int{3: math.MinInt + 3, 0: 7}, told: accesses(writeOf(math.MaxInt-4, 8, 7)), code: impl.ErrPage},
		{x: pair(impl.OpMov, 4, ofMemory(3, -1, 1, 8), ofReg(0)), regs: map[int]int{3: -10, 0: 7}, told: accesses(writeOf(-2, 4, 7)), code: impl.ErrPage},
		{x: pair(impl.OpMov, 1, ofReg(0), ofMemory(-1, -1, 1, -1)), told: accesses(readOf(-1, 1, 0)), code: impl.ErrPage},
		{x: source(impl.OpPush, 8, ofReg(0)), regs: map[int]int{4: 3, 0: 7}, told: accesses(writeOf(-5, 8, 7)), code: impl.ErrPage},
		{x: source(impl.OpPush, 8, ofReg(0)), regs: map[int]int{4: math.MinInt, 0: 7}, told: accesses(writeOf(math.MaxInt-7, 8, 7)), code: impl.ErrPage},
		{x: single(impl.OpPop, 8, ofReg(0)), regs: map[int]int{4: math.MaxInt}, told: accesses(readOf(math.MaxInt, 8, 0)), code: impl.ErrPage},
		{x: impl.Instr{Op: impl.OpStos, Size: 1}, regs: map[int]int{0: 7, 7: math.MaxInt}, told: accesses(writeOf(math.MaxInt, 1, 7)), code: impl.ErrPage},
		{x: impl.Instr{Op: impl.OpMovs, Size: 1}, regs: map[int]int{6: -1, 7: -1}, told: accesses(readOf(-1, 1, 0)), code: impl.ErrPage},
	}
}

func TestAddressesGoAround(t *testing.T) { checkCases(t, farCases()) }

// TestRegistersGoAround: the next address, goals and register 4 where they go over 2 to the 63; registers 6 and 7 cannot be seen there, as no page is.
func TestRegistersGoAround(t *testing.T) {
	m := handMemory()
	for _, v := range []struct {
		rip  int
		x    impl.Instr
		want int
	}{
		{math.MaxInt, impl.Instr{Op: impl.OpNop, Len: 1}, math.MinInt},
		{math.MaxInt - 5, impl.Instr{Op: impl.OpNop, Len: 15}, math.MinInt + 9},
		{-1, impl.Instr{Op: impl.OpNop, Len: 15}, 14},
		{-1, impl.Instr{Op: impl.OpNop}, -1},
		{math.MaxInt - 5, impl.Instr{Op: impl.OpJmp, Size: 8, Src: ofNumber(1), Len: 5}, math.MinInt},
		{math.MinInt, impl.Instr{Op: impl.OpJmp, Size: 8, Src: ofNumber(-6), Len: 5}, math.MaxInt},
		{math.MaxInt, impl.Instr{Op: impl.OpJcc, Cond: 4, Src: ofNumber(-1), Len: 2}, math.MinInt},
	} {
		c := impl.Cpu{Rip: v.rip, Flags: impl.FlZ}
		if got := checkExec(t, c, m, v.x); got.cpu.Rip != v.want || got.code != impl.OK {
			t.Errorf("Rip behind %+v at %d is %d, %d, want %d", v.x, v.rip, got.cpu.Rip, got.code, v.want)
		}
	}
	c := impl.Cpu{Rip: math.MaxInt - 2}
	c.Regs[4] = 1208
	got := checkExec(t, c, m, impl.Instr{Op: impl.OpCall, Size: 8, Src: ofNumber(0), Len: 5})
	if got.code != impl.OK || got.cpu.Rip != math.MinInt+2 || len(got.told) != 1 || got.told[0] != writeOf(1200, 8, math.MinInt+2) {
		t.Error("call", got.short())
	}
}

// TestEndsOfMemory reaches for the first and the last bytes that a memory can have, and goes over them.
func TestEndsOfMemory(t *testing.T) {
	m := memory(page(0, 3), page(65280, 3))
	stos, movs := impl.Instr{Op: impl.OpStos, Size: 1, Len: 1}, impl.Instr{Op: impl.OpMovs, Size: 1, Len: 1}
	push, pop := source(impl.OpPush, 8, ofNumber(7)), single(impl.OpPop, 8, ofReg(1))
	for _, v := range []struct {
		x             impl.Instr
		reg, at, then int
		code          int
	}{
		{stos, 7, 65535, 65536, impl.OK},
		{stos, 7, 65536, 65536, impl.ErrPage},
		{stos, 7, 0, 1, impl.OK},
		{movs, 7, 65535, 65536, impl.OK},
		{movs, 6, 65535, 65536, impl.OK},
		{movs, 6, 0, 1, impl.OK},
		{movs, 6, -1, -1, impl.ErrPage},
		{push, 4, 8, 0, impl.OK},
		{push, 4, 7, 7, impl.ErrPage},
		{push, 4, 0, 0, impl.ErrPage},
		{push, 4, 65536, 65528, impl.OK},
		{push, 4, 65537, 65537, impl.ErrPage},
		{pop, 4, 65528, 65536, impl.OK},
		{pop, 4, 65529, 65529, impl.ErrPage},
		{pop, 4, -8, -8, impl.ErrPage},
		{pop, 4, 0, 8, impl.OK},
	} {
		c := impl.Cpu{Regs: [16]int{6: 9, 7: 9}}
		c.Regs[v.reg] = v.at
		if got := checkExec(t, c, m, v.x); got.cpu.Regs[v.reg] != v.then || got.code != v.code {
			t.Errorf("%s with %d in register %d: %s", impl.OpName(v.x.Op), v.at, v.reg, got.short())
		}
	}
}
