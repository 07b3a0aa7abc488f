package tests

import (
	"fmt"
	"math"
	"slices"
	"testing"

	"loop.example/g00664/impl"
)

// noRegs are numbers that are no register from 0 to 15, and noPlaces no addresses.
var (
	noRegs   = slices.Concat([]int{-1, -2, -16, 16, 17, 18, 19, 20, 31, 32, 255, 256}, farNumbers)
	noPlaces = slices.Concat([]int{-1, -2, impl.MaxAddress + 1, impl.MaxAddress + 2, 1 << 20}, farNumbers)
)

// checkBadEffects looks that all calls answer ErrBad, and nothing beside it.
func checkBadEffects(t *testing.T, x impl.Instr, reg, at int) {
	t.Helper()
	if got, code := impl.TouchOf(x); !sameTouch(got, impl.Touch{}) || code != impl.ErrBad {
		t.Errorf("TouchOf(%+v) = %+v, %d", x, got, code)
	}
	if yes, code := impl.WritesReg(x, reg); yes || code != impl.ErrBad {
		t.Errorf("WritesReg(%+v, %d) = %v, %d", x, reg, yes, code)
	}
	if got, yes, code := impl.MemoryOf(x); got != (impl.Operand{}) || yes || code != impl.ErrBad {
		t.Errorf("MemoryOf(%+v) = %+v, %v, %d", x, got, yes, code)
	}
	if r, n, yes, code := impl.MaskOf(x); r != 0 || n != 0 || yes || code != impl.ErrBad {
		t.Errorf("MaskOf(%+v) = %d, %d, %v, %d", x, r, n, yes, code)
	}
	if r, yes, code := impl.BaseAddOf(x); r != 0 || yes || code != impl.ErrBad {
		t.Errorf("BaseAddOf(%+v) = %d, %v, %d", x, r, yes, code)
	}
	if g, yes, code := impl.GoalOf(x, at); g != 0 || yes || code != impl.ErrBad {
		t.Errorf("GoalOf(%+v, %d) = %d, %v, %d", x, at, g, yes, code)
	}
	if got, yes, code := impl.ThroughOf(x); got != (impl.Operand{}) || yes || code != impl.ErrBad {
		t.Errorf("ThroughOf(%+v) = %+v, %v, %d", x, got, yes, code)
	}
}

// nearlyRight are instructions of the kinds that the calls tell of, each with one thing wrong.
func nearlyRight() []impl.Instr {
	mask, base, jump := pair(impl.OpAnd, 4, ofReg(9), ofNumber(4095)), pair(impl.OpAdd, 8, ofReg(9), ofReg(15)), source(impl.OpJmp, 8, ofNumber(5))
	list := []impl.Instr{source(impl.OpJmp, 4, ofNumber(5)), source(impl.OpJmp, 8, ofNumber(1<<31)), source(impl.OpCall, 8, ofReg(16)), single(impl.OpJmp, 8, ofReg(1)), source(impl.OpJcc, 8, ofNumber(5)), source(impl.OpJcc, 0, ofReg(1)), source(impl.OpJcc, 0, at3),
		pair(impl.OpAnd, 4, ofReg(16), ofNumber(4095)), pair(impl.OpAnd, 4, ofReg(9), ofNumber(1<<31)), pair(impl.OpAnd, 4, ofNumber(4095), ofReg(9)), pair(impl.OpAdd, 8, ofReg(16), ofReg(15)), pair(impl.OpAdd, 8, ofReg(9), ofReg(16)), pair(impl.OpAdd, 8, at3, at3),
		pair(impl.OpXchg, 8, ofReg(3), at3), single(impl.OpPush, 8, ofReg(1)), source(impl.OpPop, 8, ofReg(1)), source(impl.OpMul, 3, ofReg(1)), {Op: impl.OpMul, Size: 8}, {Op: impl.OpStos, Size: 4}, {Op: impl.OpCsign, Size: 1}, {Op: impl.OpRet, Size: 8}}
	for _, x := range []impl.Instr{mask, base, jump} {
		for _, field := range []func(*impl.Instr){
			func(x *impl.Instr) { x.Len = 16 }, func(x *impl.Instr) { x.Len = -1 }, func(x *impl.Instr) { x.Cond = 1 }, func(x *impl.Instr) { x.From = 1 }, func(x *impl.Instr) { x.Src.Base = 1 }, func(x *impl.Instr) { x.Dst.Imm = 1 }, func(x *impl.Instr) { x.Op = 0 },
		} {
			wrong := x
			field(&wrong)
			list = append(list, wrong)
		}
	}
	return list
}

// TestEffectsOfWrongInstructions: ErrBad comes first, whatever reg and at are.
func TestEffectsOfWrongInstructions(t *testing.T) {
	for _, x := range slices.Concat(wrongInstrs(), nearlyRight()) {
		if impl.InstrOK(x) {
			t.Fatalf("the tests' own instruction is right: %+v", x)
		}
		for _, n := range slices.Concat([]int{0, 4, 15, 16896, impl.MaxAddress}, noRegs, noPlaces) {
			checkBadEffects(t, x, n, n)
		}
	}
}

// TestEffectsOfAnyFields puts any number into each field of an instruction that is right.
func TestEffectsOfAnyFields(t *testing.T) {
	e, m := newEffects(t), newEncodings(t)
	right, wrong := 0, 0
	for i, fairOne := range fairInstrs(m) {
		for j, field := range instrFields() {
			for _, n := range []int{0, 1, 4, 15, 16, -1, farNumbers[(i+j)%len(farNumbers)]} {
				x := fairOne
				if *field(&x) = n; m.mayBe(x) {
					e.check(x, i%1000)
					right++
				} else {
					checkBadEffects(t, x, n, n)
					wrong++
				}
			}
		}
	}
	if right < 1000 || wrong < 10000 {
		t.Error("the sweep has", right, wrong)
	}
}

// TestRegistersOutOfBounds: of an instruction that writes a register, one that writes a part of it, and one that writes none.
func TestRegistersOutOfBounds(t *testing.T) {
	for _, x := range slices.Concat(fairInstrs(newEncodings(t)), fineInstrs(), []impl.Instr{pair(impl.OpMov, 1, ofReg(16), ofReg(19)), pair(impl.OpXchg, 1, ofReg(17), ofReg(18)), {Op: impl.OpNop}}) {
		for _, reg := range noRegs {
			if yes, code := impl.WritesReg(x, reg); yes || code != impl.ErrRange {
				t.Errorf("WritesReg(%+v, %d) = %v, %d", x, reg, yes, code)
			}
		}
	}
}

// TestPlacesOutOfBounds: of an instruction with a goal, though that were an address, and of one without.
func TestPlacesOutOfBounds(t *testing.T) {
	back, ahead := source(impl.OpJmp, 8, ofNumber(-300)), source(impl.OpJcc, 0, ofNumber(300))
	for _, x := range slices.Concat(fairInstrs(newEncodings(t)), goers(), []impl.Instr{back, ahead, pair(impl.OpAnd, 4, ofReg(9), ofNumber(4095))}) {
		for _, at := range noPlaces {
			if g, yes, code := impl.GoalOf(x, at); g != 0 || yes || code != impl.ErrRange {
				t.Errorf("GoalOf(%+v, %d) = %d, %v, %d", x, at, g, yes, code)
			}
		}
	}
}

// effectsCalls are all the calls of chapter 9.
func effectsCalls() []call {
	var list []call
	add := func(make func() string, name ...any) { list = append(list, call{fmt.Sprint(name...), make}) }
	inputs := slices.Concat(someInstrs(), cpuInputs(), nearlyRight(), goers(), placed(at3))
	for i, x := range inputs {
		add(func() string { return fmt.Sprint(impl.TouchOf(x)) }, "TouchOf ", i)
		add(func() string { return fmt.Sprint(impl.MemoryOf(x)) }, "MemoryOf ", i)
		add(func() string { return fmt.Sprint(impl.MaskOf(x)) }, "MaskOf ", i)
		add(func() string { return fmt.Sprint(impl.BaseAddOf(x)) }, "BaseAddOf ", i)
		add(func() string { return fmt.Sprint(impl.ThroughOf(x)) }, "ThroughOf ", i)
		for _, n := range []int{0, 1, 4, 15, 16, -1, impl.MaxAddress, impl.MaxAddress + 1, math.MaxInt, math.MinInt} {
			add(func() string { return fmt.Sprint(impl.WritesReg(x, n)) }, "WritesReg ", i, n)
			add(func() string { return fmt.Sprint(impl.GoalOf(x, n)) }, "GoalOf ", i, n)
		}
	}
	return list
}

// spoilNumbers writes into all the memory that a list has, behind its end too.
func spoilNumbers(list []int) {
	all := list[:cap(list)]
	for i := range all {
		all[i] = -7
	}
}

// TestTouchesShareNothing holds for P1 and rule 3: what is written into a list of registers shows in no other answer.
func TestTouchesShareNothing(t *testing.T) {
	for _, x := range []impl.Instr{source(impl.OpMul, 8, at3), single(impl.OpPop, 8, ofReg(12)), {Op: impl.OpMovs, Size: 1}, {Op: impl.OpRet}, {Op: impl.OpNop}, {Op: impl.OpCwide, Size: 8}, pair(impl.OpXchg, 8, ofReg(9), ofReg(2))} {
		first, _ := impl.TouchOf(x)
		want := impl.Touch{Regs: slices.Clone(first.Regs), Reads: first.Reads, Writes: first.Writes, Stack: first.Stack}
		second, _ := impl.TouchOf(x)
		spoilNumbers(first.Regs)
		first.Regs = append(first.Regs, 1, 2, 3)
		if !sameTouch(second, want) {
			t.Errorf("answers of %+v share memory: %+v, want %+v", x, second, want)
		}
		checkTouch(t, x, want)
	}
}
