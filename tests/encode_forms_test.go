package tests

import (
	"math"
	"math/rand"
	"slices"
	"testing"

	"loop.example/g00664/impl"
)

// instrSizes are sizes and 0, and what is none.
var instrSizes = []int{0, 1, 2, 4, 8, 3, 5, 6, 7, 16, -1, -8, 1 << 32, 1<<32 + 4, math.MinInt, math.MaxInt}

var wrongOps = slices.Concat([]int{0, -1, 45, 46, 255, 256}, farNumbers)

// eachOp are all operations, ahead of what is none.
func eachOp() []int { return append(upTo(len(chapterOps) + 1)[1:], wrongOps...) }

// fromsOf are the Froms that an operation may have.
func fromsOf(op int) []int {
	switch op {
	case impl.OpMovzx, impl.OpMovsx:
		return []int{1, 2, 4}
	}
	return []int{0}
}

// TestEachPattern asks of each operation with each size and with operands of each kind, whether it has them or not.
func TestEachPattern(t *testing.T) {
	m := newEncodings(t)
	operands := []impl.Operand{{}, ofReg(0), ofReg(1), ofReg(9), ofReg(17), ofMemory(3, -1, 1, 8), ofMemory(-1, 9, 2, 0), ofNumber(1), ofNumber(-1), {Kind: 4}}
	for _, op := range eachOp() {
		for _, size := range instrSizes {
			for _, dst := range operands {
				for _, src := range operands {
					for _, from := range []int{0, 1, 2, 3, 4, 8} {
						m.check(impl.Instr{Op: op, Size: size, From: from, Dst: dst, Src: src})
					}
				}
			}
		}
	}
	m.checkCounts(1000, 10000)
}

// TestEachRegister asks of each register and what is none, of each size, alone and beside another operand.
func TestEachRegister(t *testing.T) {
	m := newEncodings(t)
	others := []impl.Operand{{}, ofMemory(3, -1, 1, 8), ofMemory(8, -1, 1, 0), ofMemory(4, 15, 2, 0), ofMemory(impl.RegRip, -1, 1, 5), ofNumber(3), ofNumber(1 << 40)}
	for a := -1; a <= 20; a++ {
		one := ofReg(a)
		for b := -1; b <= 20; b++ {
			for op := impl.OpAdd; op <= impl.OpInt; op++ {
				for _, size := range sizes {
					for _, from := range fromsOf(op) {
						m.check(impl.Instr{Op: op, Size: size, From: from, Dst: one, Src: ofReg(b)})
					}
				}
			}
		}
		for op := impl.OpAdd; op <= impl.OpInt; op++ {
			for _, size := range instrSizes[:5] {
				for _, from := range fromsOf(op) {
					for _, other := range others {
						m.check(impl.Instr{Op: op, Size: size, From: from, Dst: one, Src: other})
						m.check(impl.Instr{Op: op, Size: size, From: from, Dst: other, Src: one})
					}
				}
			}
		}
	}
	for _, far := range farNumbers {
		for _, size := range sizes {
			m.check(impl.Instr{Op: impl.OpMov, Size: size, Dst: ofReg(far), Src: ofReg(1)})
			m.check(impl.Instr{Op: impl.OpMov, Size: size, Dst: ofReg(1), Src: ofReg(far)})
			m.check(impl.Instr{Op: impl.OpShl, Size: size, Dst: ofReg(1), Src: ofReg(far)})
		}
	}
	m.checkCounts(20000, 20000)
}

// placed are instructions that have memory, one of each form, and with registers that ask for REX or go without it.
func placed(place impl.Operand) []impl.Instr {
	return []impl.Instr{
		{Op: impl.OpLea, Size: 8, Dst: ofReg(0), Src: place},
		{Op: impl.OpMov, Size: 4, Dst: place, Src: ofReg(7)},
		{Op: impl.OpMov, Size: 1, Dst: place, Src: ofReg(16)},
		{Op: impl.OpAdd, Size: 1, Dst: ofReg(5), Src: place},
		{Op: impl.OpXor, Size: 4, Dst: ofReg(13), Src: place},
		{Op: impl.OpCmp, Size: 2, Dst: place, Src: ofNumber(-128)},
		{Op: impl.OpCmp, Size: 2, Dst: place, Src: ofNumber(-129)},
		{Op: impl.OpMov, Size: 8, Dst: place, Src: ofNumber(math.MaxInt32)},
		{Op: impl.OpMov, Size: 8, Dst: place, Src: ofNumber(math.MaxInt32 + 1)},
		{Op: impl.OpPush, Size: 8, Src: place},
		{Op: impl.OpPop, Size: 8, Dst: place},
		{Op: impl.OpSetcc, Size: 1, Cond: 5, Dst: place},
		{Op: impl.OpMovzx, Size: 4, From: 1, Dst: ofReg(6), Src: place},
		{Op: impl.OpSar, Size: 1, Dst: place, Src: ofReg(1)},
		{Op: impl.OpCmov, Size: 2, Cond: 15, Dst: ofReg(8), Src: place},
	}
}

// TestEachPlace asks of memory of each Base, Index and Scale, and what is none, with Disp of each length.
func TestEachPlace(t *testing.T) {
	m := newEncodings(t)
	disps := []int{0, 1, -1, 127, 128, -128, -129, math.MaxInt32, math.MinInt32, math.MaxInt32 + 1, math.MinInt32 - 1, math.MinInt}
	count := 0
	for base := -2; base <= 17; base++ {
		for index := -2; index <= 17; index++ {
			for _, scale := range []int{0, 1, 2, 3, 4, 8, 16} {
				for _, disp := range disps {
					list := placed(ofMemory(base, index, scale, disp))
					m.check(list[0])
					m.check(list[1+count%(len(list)-1)])
					count++
				}
			}
		}
	}
	for _, base := range []int{-1, 3, 4, 5, 12, 13, 16} {
		for _, index := range []int{-1, 0, 5, 12, 13} {
			for _, scale := range []int{1, 8} {
				for _, disp := range disps {
					for _, x := range placed(ofMemory(base, index, scale, disp)) {
						m.check(x)
					}
				}
			}
		}
	}
	m.checkCounts(20000, 20000)
}

// TestEachNumber asks of numbers at the ends of all sizes.
func TestEachNumber(t *testing.T) {
	m := newEncodings(t)
	numbers := slices.Concat(edgeNumbers(), farNumbers, []int{4, 5, 8, 63, 64, 99, 254, -254, 1000, -1000, 100000, -100000})
	for op := impl.OpAdd; op <= impl.OpInt; op++ {
		for _, size := range instrSizes[:5] {
			for _, dst := range []impl.Operand{{}, ofReg(0), ofReg(5), ofReg(12), ofReg(18), ofMemory(5, -1, 1, 0), ofMemory(-1, -1, 1, 7)} {
				for _, n := range numbers {
					m.check(impl.Instr{Op: op, Size: size, Dst: dst, Src: ofNumber(n)})
				}
			}
		}
	}
	m.checkCounts(2000, 20000)
}

// instrFields are the fields of an instruction that are numbers, and then those of its operands.
func instrFields() []func(*impl.Instr) *int {
	list := []func(*impl.Instr) *int{
		func(x *impl.Instr) *int { return &x.Op },
		func(x *impl.Instr) *int { return &x.Size },
		func(x *impl.Instr) *int { return &x.Cond },
		func(x *impl.Instr) *int { return &x.From },
		func(x *impl.Instr) *int { return &x.Len },
	}
	for _, f := range operandFields {
		list = append(list, func(x *impl.Instr) *int { return f.of(&x.Dst) }, func(x *impl.Instr) *int { return f.of(&x.Src) })
	}
	return list
}

// fairInstrs are instructions that can be encoded, of each operation and of each kind of operands.
func fairInstrs(m *encodings) []impl.Instr {
	var list []impl.Instr
	operands := []impl.Operand{{}, ofReg(1), ofReg(6), ofReg(10), ofReg(16), ofMemory(3, -1, 1, 8), ofMemory(13, 2, 4, 0), ofMemory(-1, -1, 1, 512), ofMemory(impl.RegRip, -1, 1, 0), ofNumber(77), ofNumber(1000), ofNumber(1 << 40)}
	for op := impl.OpAdd; op <= impl.OpInt; op++ {
		for _, size := range instrSizes[:5] {
			for _, dst := range operands {
				for _, src := range operands {
					for _, from := range fromsOf(op) {
						if x := (impl.Instr{Op: op, Size: size, From: from, Dst: dst, Src: src}); m.mayBe(x) {
							list = append(list, x)
						}
					}
				}
			}
		}
	}
	return list
}

// TestEachField puts any number into each field of instructions that can be encoded.
func TestEachField(t *testing.T) {
	m := newEncodings(t)
	numbers := slices.Concat(fieldNumbers, []int{0, 3, 5, 9, 14, 44, 45, -2, 127, 128})
	fair := fairInstrs(m)
	for _, field := range instrFields() {
		for i, fairOne := range fair {
			for j, n := range numbers {
				// Each number goes into each field of some of them.
				if (i+j)%3 == 0 {
					x := fairOne
					*field(&x) = n
					m.check(x)
				}
			}
		}
	}
	m.checkCounts(5000, 50000)
}

// TestAnyFields puts small numbers into some fields at once.
func TestAnyFields(t *testing.T) {
	m := newEncodings(t)
	fair, fields := fairInstrs(m), instrFields()
	source := rand.New(rand.NewSource(6))
	for range 150000 {
		x := fair[source.Intn(len(fair))]
		for range 1 + source.Intn(3) {
			*fields[source.Intn(len(fields))](&x) = source.Intn(24) - 3
		}
		m.check(x)
	}
	m.checkCounts(10000, 50000)
}

// TestLengthIsNotLookedAt asks of Len from -1 to 16, and of far numbers.
func TestLengthIsNotLookedAt(t *testing.T) {
	m := newEncodings(t)
	for _, x := range fairInstrs(m) {
		for x.Len = -1; x.Len <= impl.MaxLength+1; x.Len += 4 {
			m.check(x)
		}
		for _, x.Len = range []int{0, 1, 14, 15, 16, math.MaxInt, math.MinInt} {
			m.check(x)
		}
	}
	m.checkCounts(1000, 1000)
}

// TestEachCond asks of Cond of each operation.
func TestEachCond(t *testing.T) {
	m := newEncodings(t)
	for _, x := range fairInstrs(m) {
		for cond := -1; cond <= 16; cond++ {
			x.Cond = cond
			if slices.Contains(opsWithCond, m.opName(x.Op)) || cond < 3 || cond > 14 {
				m.check(x)
			}
		}
		for _, x.Cond = range farNumbers {
			m.check(x)
		}
	}
	m.checkCounts(1000, 1000)
}

// TestInstructionsOfAnyBytesCanBeEncoded holds for P5: bytes that are an instruction are one that can be encoded, and what is encoded so is decoded alike.
func TestInstructionsOfAnyBytesCanBeEncoded(t *testing.T) {
	m := newEncodings(t)
	canonical, others := 0, 0
	eachDraft(t, []int{0, 64, 65, 66, 68, 72, 79}, upTo(256), []int{0x25, 0x98}, func(d drafting) {
		if d.code != impl.OK {
			if yes, code := impl.IsCanonical(d.text, 0); yes || code != d.code {
				t.Fatalf("IsCanonical of % x = %v, %d, want %d", d.text, yes, code, d.code)
			}
			return
		}
		if !m.mayBe(d.x) {
			t.Fatalf("the tests' own tables refuse % x: %+v", d.text, d.x)
		}
		m.check(d.x)
		want := m.laid(d.x) == d.text
		if yes, code := impl.IsCanonical(d.text+"\x90", 0); yes != want || code != impl.OK {
			t.Fatalf("IsCanonical of % x = %v, %d, want %v", d.text, yes, code, want)
		}
		if want {
			canonical++
		} else {
			others++
		}
	})
	if canonical < 10000 || others < 10000 {
		t.Error("bytes that are those of Encode, and others:", canonical, others)
	}
}
