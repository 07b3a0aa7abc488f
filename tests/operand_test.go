package tests

import (
	"math"
	"slices"
	"testing"

	"loop.example/g00664/impl"
)

// operandFields are the fields of an operand by their names.
var operandFields = []struct {
	name string
	of   func(*impl.Operand) *int
}{
	{"Kind", func(x *impl.Operand) *int { return &x.Kind }},
	{"Reg", func(x *impl.Operand) *int { return &x.Reg }},
	{"Base", func(x *impl.Operand) *int { return &x.Base }},
	{"Index", func(x *impl.Operand) *int { return &x.Index }},
	{"Scale", func(x *impl.Operand) *int { return &x.Scale }},
	{"Disp", func(x *impl.Operand) *int { return &x.Disp }},
	{"Imm", func(x *impl.Operand) *int { return &x.Imm }},
}

var fieldNumbers = slices.Concat([]int{1, 2, 4, 8, -1, 15, 16, 17, 256, math.MaxInt32, math.MinInt32}, farNumbers)

func checkOperand(t *testing.T, x impl.Operand, size int, want bool) {
	t.Helper()
	if got := impl.OperandOK(x, size); got != want {
		t.Errorf("OperandOK(%+v, %d) = %v", x, size, got)
	}
}

func checkOperandOfSizes(t *testing.T, x impl.Operand, want bool) {
	t.Helper()
	for _, size := range sizes {
		checkOperand(t, x, size, want)
	}
	for _, size := range noSizes {
		checkOperand(t, x, size, false)
	}
}

// checkFieldsOfOthers puts numbers into the fields that a kind does not have.
func checkFieldsOfOthers(t *testing.T, x impl.Operand, fields ...string) {
	t.Helper()
	checkOperandOfSizes(t, x, true)
	for _, f := range operandFields {
		if !slices.Contains(fields, f.name) {
			continue
		}
		for _, n := range fieldNumbers {
			wrong := x
			*f.of(&wrong) = n
			checkOperandOfSizes(t, wrong, false)
		}
	}
}

func TestNoOperand(t *testing.T) {
	checkOperandOfSizes(t, impl.Operand{}, true)
	checkFieldsOfOthers(t, impl.Operand{}, "Reg", "Base", "Index", "Scale", "Disp", "Imm")
}

func TestKindsThatAreNone(t *testing.T) {
	for _, kind := range append([]int{-1, 4, 5, -3, 255, 256, 257}, farNumbers...) {
		for _, x := range []impl.Operand{{}, {Reg: 1}, {Imm: 1}, {Index: -1, Scale: 1}, ofMemory(1, 2, 4, 8)} {
			x.Kind = kind
			checkOperandOfSizes(t, x, false)
		}
	}
}

func TestRegisterOperands(t *testing.T) {
	for reg := range 16 {
		checkOperandOfSizes(t, ofReg(reg), true)
	}
	for reg := 16; reg < 20; reg++ {
		for _, size := range append(noSizes, sizes...) {
			checkOperand(t, ofReg(reg), size, size == 1)
		}
	}
	for _, reg := range append([]int{-1, 20, 21, -16, 32, 256, 257}, farNumbers...) {
		checkOperandOfSizes(t, ofReg(reg), false)
	}
	checkFieldsOfOthers(t, ofReg(0), "Base", "Index", "Scale", "Disp", "Imm")
	checkFieldsOfOthers(t, ofReg(15), "Base", "Index", "Scale", "Disp", "Imm")
	checkOperand(t, impl.Operand{Kind: impl.KindReg, Reg: 19, Imm: 1}, 1, false)
}

func TestNumberOperands(t *testing.T) {
	for _, n := range slices.Concat([]int{0}, fieldNumbers, edgeNumbers()) {
		checkOperandOfSizes(t, ofNumber(n), true)
	}
	checkFieldsOfOthers(t, ofNumber(0), "Reg", "Base", "Index", "Scale", "Disp")
	checkFieldsOfOthers(t, ofNumber(-1), "Reg", "Base", "Index", "Scale", "Disp")
}

// TestMemoryOperands asks of each Base with each Index and each Scale.
func TestMemoryOperands(t *testing.T) {
	for base := -2; base <= 20; base++ {
		for index := -2; index <= 20; index++ {
			for scale := -1; scale <= 17; scale++ {
				want := base >= -1 && base <= 16 && index >= -1 && index <= 15 && index != 4
				if index == -1 {
					want = want && scale == 1
				} else {
					want = want && base != 16 && slices.Contains([]int{1, 2, 4, 8}, scale)
				}
				checkOperandOfSizes(t, ofMemory(base, index, scale, 0), want)
			}
		}
	}
}

func TestMemoryOperandsOfFarNumbers(t *testing.T) {
	for _, n := range slices.Concat(farNumbers, []int{math.MaxInt32, math.MinInt32, 256, 257, 255, -3, -16, -256}) {
		checkOperandOfSizes(t, ofMemory(n, 1, 1, 0), false)
		checkOperandOfSizes(t, ofMemory(n, -1, 1, 0), false)
		checkOperandOfSizes(t, ofMemory(1, n, 1, 0), false)
		checkOperandOfSizes(t, ofMemory(1, 1, n, 0), false)
		checkOperandOfSizes(t, ofMemory(1, -1, n, 0), false)
	}
}

func TestDispOfOperands(t *testing.T) {
	for _, base := range []int{-1, 0, 4, 15, impl.RegRip} {
		for _, disp := range []int{0, 1, -1, 127, 128, -128, -129, 2147483647, -2147483648, 2147483646, -2147483647} {
			checkOperandOfSizes(t, ofMemory(base, -1, 1, disp), true)
		}
		for _, disp := range append([]int{2147483648, -2147483649, 4294967295, -4294967295}, farNumbers...) {
			checkOperandOfSizes(t, ofMemory(base, -1, 1, disp), false)
		}
	}
	checkOperandOfSizes(t, ofMemory(3, 5, 8, 2147483647), true)
	checkOperandOfSizes(t, ofMemory(3, 5, 8, 2147483648), false)
	checkOperandOfSizes(t, ofMemory(3, 5, 8, -2147483648), true)
	checkOperandOfSizes(t, ofMemory(3, 5, 8, -2147483649), false)
	checkFieldsOfOthers(t, ofMemory(3, 5, 8, 1), "Reg", "Imm")
	checkFieldsOfOthers(t, ofMemory(-1, -1, 1, 0), "Reg", "Imm")
	checkFieldsOfOthers(t, ofMemory(impl.RegRip, -1, 1, -1), "Reg", "Imm")
}
