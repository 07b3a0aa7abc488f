package tests

import (
	"math"
	"slices"
	"testing"

	"loop.example/g00664/impl"
)

// fullRegs are registers of which no two bytes are alike in one register, and no two registers are alike.
func fullRegs() [16]int {
	var regs [16]int
	for i := range regs {
		regs[i] = 0x7192_a3b4_c5d6_e7f8 + i*0x0101_0101_0101_0101
	}
	return regs
}

func fullCpu() impl.Cpu { return impl.Cpu{Regs: fullRegs(), Rip: 512, Flags: allOn} }

// wrongCpus are processors whose Flags have a bit that is none, whatever else they hold.
func wrongCpus() []impl.Cpu {
	var list []impl.Cpu
	for _, flags := range noFlags {
		list = append(list, impl.Cpu{Flags: flags}, impl.Cpu{Regs: fullRegs(), Rip: 512, Flags: flags})
	}
	return list
}

func TestCpuLimits(t *testing.T) {
	if impl.MaxSteps != 500 || impl.AcRead != 1 || impl.AcWrite != 2 || impl.AcRun != 3 {
		t.Error(impl.MaxSteps, impl.AcRead, impl.AcWrite, impl.AcRun)
	}
}

// TestCpuOK looks at each number from 0 to 8191 as Flags, and at any integers in the other fields.
func TestCpuOK(t *testing.T) {
	sums := flagSums()
	for flags := range 8192 {
		if ok := impl.CpuOK(impl.Cpu{Flags: flags}); ok != slices.Contains(sums, flags) {
			t.Errorf("CpuOK with Flags %d is %v", flags, ok)
		}
	}
	for _, c := range wrongCpus() {
		if impl.CpuOK(c) {
			t.Errorf("CpuOK with Flags %d", c.Flags)
		}
	}
	for _, n := range anyNumbers {
		c := impl.Cpu{Rip: n, Flags: allOn}
		for i := range c.Regs {
			c.Regs[i] = n
		}
		if !impl.CpuOK(c) {
			t.Errorf("not CpuOK: %+v", c)
		}
	}
}

// TestGetReg tells registers by hand.
func TestGetReg(t *testing.T) {
	c := impl.Cpu{Regs: [16]int{-2, 0x0102030405060708, 0x80ff, math.MinInt, 12: 0x1_8000_0000, 15: 0xfffe}}
	for _, v := range []struct{ reg, size, want int }{
		{0, 8, -2}, {0, 4, 0xfffffffe}, {0, 2, 0xfffe}, {0, 1, 0xfe}, {16, 1, 0xff},
		{1, 8, 0x0102030405060708}, {1, 4, 0x05060708}, {1, 2, 0x0708}, {1, 1, 8}, {17, 1, 7},
		{2, 8, 0x80ff}, {2, 4, 0x80ff}, {2, 2, 0x80ff}, {2, 1, 0xff}, {18, 1, 0x80},
		{3, 8, math.MinInt}, {3, 4, 0}, {3, 1, 0}, {19, 1, 0},
		{12, 8, 0x1_8000_0000}, {12, 4, 0x8000_0000}, {12, 2, 0}, {15, 2, 0xfffe}, {15, 1, 0xfe}, {4, 8, 0},
	} {
		if n, code := impl.GetReg(c, v.reg, v.size); n != v.want || code != impl.OK {
			t.Errorf("GetReg of %d of size %d is %d, %d, want %d", v.reg, v.size, n, code, v.want)
		}
	}
}

// TestSetReg tells by hand what becomes of a register whose bits are all on, and of one whose bits are all off.
func TestSetReg(t *testing.T) {
	for _, v := range []struct{ reg, size, v, ofOnes, ofNoughts int }{
		{0, 8, 0x1122334455667788, 0x1122334455667788, 0x1122334455667788},
		{0, 4, 0x1122334455667788, 0x55667788, 0x55667788},
		{0, 2, 0x1122334455667788, -0x10000 + 0x7788, 0x7788},
		{0, 1, 0x1122334455667788, -0x100 + 0x88, 0x88},
		{16, 1, 0x1122334455667788, -0x10000 + 0x88ff, 0x8800},
		{4, 1, 0x12, -0x100 + 0x12, 0x12},
		{15, 4, -1, 0xffffffff, 0xffffffff},
		{15, 2, -2, -2, 0xfffe},
		{15, 1, -2, -2, 0xfe},
		{19, 1, -2, -0x101, 0xfe00},
		{7, 8, math.MinInt, math.MinInt, math.MinInt},
		{7, 4, math.MinInt, 0, 0},
		{7, 2, 0x10000, -0x10000, 0},
		{5, 1, 0x100, -0x100, 0},
	} {
		for ones, want := range map[int]int{-1: v.ofOnes, 0: v.ofNoughts} {
			c := impl.Cpu{Rip: 7, Flags: allOn}
			for i := range c.Regs {
				c.Regs[i] = ones
			}
			then := c
			then.Regs[v.reg%16] = want
			if got, code := impl.SetReg(c, v.reg, v.size, v.v); got != then || code != impl.OK {
				t.Errorf("SetReg of %d of size %d to %#x: %+v, %d, want %#x there", v.reg, v.size, v.v, got, code, want)
			}
		}
	}
}

// TestEachRegisterOfEachSize holds each register against its bytes, and reads back what is written; 16 to 19 are there of size 1 alone.
func TestEachRegisterOfEachSize(t *testing.T) {
	for _, size := range sizes {
		for reg := range len(chapterRegs[size]) {
			for _, v := range slices.Concat(edgeNumbers(), edgesOf(size)) {
				c := fullCpu()
				k := machineOf(c, impl.Memory{})
				if n, code := impl.GetReg(c, reg, size); n != k.get(reg, size) || code != impl.OK {
					t.Errorf("GetReg of %d of size %d is %#x, %d", reg, size, n, code)
				}
				k.put(reg, size, v)
				got, code := impl.SetReg(c, reg, size, v)
				if got != k.cpu() || code != impl.OK {
					t.Errorf("SetReg of %d of size %d to %d: %+v, %d", reg, size, v, got, code)
				}
				if n, code := impl.GetReg(got, reg, size); n != lowestOf(plainOf(v, size), size) || code != impl.OK {
					t.Errorf("GetReg of %d of size %d, which is %d, is %d, %d", reg, size, v, n, code)
				}
			}
		}
	}
}

// anyRegs are registers and what is none.
var anyRegs = slices.Concat(upTo(24), []int{-1, -2, -16, 31, 32, 255, 256, 1 << 32, 1<<32 + 1, math.MinInt, math.MinInt + 1, math.MaxInt})

// TestRegistersOfNoSize tells the code of any register of any size: ErrBad of a processor that is not right comes ahead of ErrRange.
func TestRegistersOfNoSize(t *testing.T) {
	for _, reg := range anyRegs {
		for _, size := range slices.Concat(sizes, noSizes) {
			if reg >= 0 && reg < len(chapterRegs[size]) {
				continue
			}
			for _, v := range []int{0, 5, -1} {
				if n, code := impl.GetReg(fullCpu(), reg, size); n != 0 || code != impl.ErrRange {
					t.Errorf("GetReg of %d of size %d is %d, %d", reg, size, n, code)
				}
				if got, code := impl.SetReg(fullCpu(), reg, size, v); got != (impl.Cpu{}) || code != impl.ErrRange {
					t.Errorf("SetReg of %d of size %d: %+v, %d", reg, size, got, code)
				}
			}
		}
	}
	for _, c := range wrongCpus() {
		for _, reg := range anyRegs {
			for _, size := range []int{1, 2, 4, 8, 0, 3, 16, -1} {
				if n, code := impl.GetReg(c, reg, size); n != 0 || code != impl.ErrBad {
					t.Errorf("GetReg with Flags %d of %d of size %d is %d, %d", c.Flags, reg, size, n, code)
				}
				if got, code := impl.SetReg(c, reg, size, 5); got != (impl.Cpu{}) || code != impl.ErrBad {
					t.Errorf("SetReg with Flags %d of %d of size %d: %+v, %d", c.Flags, reg, size, got, code)
				}
			}
		}
	}
}

func checkAddress(t *testing.T, c impl.Cpu, x impl.Operand, next, want, wantCode int) {
	t.Helper()
	if at, code := impl.AddressOf(c, x, next); at != want || code != wantCode {
		t.Errorf("AddressOf %+v with %v and next %d is %d, %d, want %d, %d", x, c.Regs, next, at, code, want, wantCode)
	}
}

// TestAddressOf tells addresses by hand, some of which go over 2 to the 63 and 2 to the 64.
func TestAddressOf(t *testing.T) {
	c := impl.Cpu{Regs: [16]int{1: 1000, 2: 3, 3: -1, 4: 2000, 5: math.MaxInt, 6: math.MinInt, 12: 1 << 62, 15: 16384}, Rip: 77}
	for _, v := range []struct {
		x    impl.Operand
		want int
	}{
		{ofMemory(1, -1, 1, 0), 1000},
		{ofMemory(1, -1, 1, -1001), -1},
		{ofMemory(0, -1, 1, 12), 12},
		{ofMemory(4, -1, 1, 8), 2008},
		{ofMemory(1, 2, 1, 0), 1003},
		{ofMemory(1, 2, 2, 5), 1011},
		{ofMemory(1, 2, 4, 0), 1012},
		{ofMemory(15, 2, 8, -4), 16404},
		{ofMemory(2, 2, 8, 0), 27},
		{ofMemory(-1, 2, 8, 100), 124},
		{ofMemory(-1, 0, 8, 100), 100},
		{ofMemory(-1, -1, 1, 512), 512},
		{ofMemory(-1, -1, 1, -512), -512},
		{ofMemory(-1, -1, 1, math.MinInt32), math.MinInt32},
		{ofMemory(impl.RegRip, -1, 1, 0), 99},
		{ofMemory(impl.RegRip, -1, 1, -100), -1},
		{ofMemory(impl.RegRip, -1, 1, math.MaxInt32), math.MaxInt32 + 99},
		{ofMemory(1, 3, 8, 0), 992},
		{ofMemory(5, -1, 1, 1), math.MinInt},
		{ofMemory(6, -1, 1, -1), math.MaxInt},
		{ofMemory(5, 5, 1, 0), -2},
		{ofMemory(6, 6, 1, 5), 5},
		{ofMemory(-1, 6, 2, 7), 7},
		{ofMemory(1, 12, 2, 0), math.MinInt + 1000},
		{ofMemory(1, 12, 4, 0), 1000},
		{ofMemory(12, 12, 8, 3), 1<<62 + 3},
		{ofMemory(3, 5, 2, 3), 0},
	} {
		checkAddress(t, c, v.x, 99, v.want, impl.OK)
		if v.x.Base != impl.RegRip {
			checkAddress(t, c, v.x, math.MinInt, v.want, impl.OK)
		}
	}
	for _, v := range []struct{ next, disp, want int }{{math.MaxInt, 1, math.MinInt}, {math.MinInt, -1, math.MaxInt}, {-5, 5, 0}, {-5, 6, 1}} {
		checkAddress(t, c, ofMemory(impl.RegRip, -1, 1, v.disp), v.next, v.want, impl.OK)
	}
}

// TestAddressOfAll holds each Base, Index and Scale against numbers without bounds.
func TestAddressOfAll(t *testing.T) {
	numbers := edgeNumbers()
	count := 0
	for base := -1; base <= 16; base++ {
		for index := -1; index <= 15; index++ {
			for _, scale := range sizes {
				for _, disp := range []int{0, 1, -1, 127, -129, math.MaxInt32, math.MinInt32} {
					c := fullCpu()
					for i := range c.Regs {
						count++
						c.Regs[i] = numbers[count%len(numbers)]
					}
					x, next := ofMemory(base, index, scale, disp), numbers[count/7%len(numbers)]
					k := machineOf(c, impl.Memory{})
					k.rip = next
					want, code := k.at(x), impl.OK
					if index == 4 || index == -1 && scale != 1 || index != -1 && base == 16 {
						want, code = 0, impl.ErrBad
					}
					checkAddress(t, c, x, next, want, code)
				}
			}
		}
	}
}

// TestAddressOfNone: operands that are not right or are no memory, and processors that are not right.
func TestAddressOfNone(t *testing.T) {
	right := ofMemory(1, 2, 4, 8)
	list := []impl.Operand{{}, ofReg(0), ofReg(1), ofReg(16), ofReg(20), ofNumber(0), ofNumber(512), {Kind: 4}, {Kind: -1},
		{Kind: 4, Base: 1, Index: 2, Scale: 4}, {Base: 1, Index: -1, Scale: 1}, {Kind: impl.KindReg, Base: 1, Index: -1, Scale: 1}, {Kind: impl.KindImm, Base: 1, Index: -1, Scale: 1}}
	for _, n := range slices.Concat(farNumbers, []int{-2, 17, 18, 20, 255}) {
		list = append(list, ofMemory(n, -1, 1, 0), ofMemory(1, n, 1, 0))
	}
	for _, n := range noSizes {
		list = append(list, ofMemory(1, 2, n, 0))
	}
	for _, n := range slices.Concat(farNumbers, []int{math.MaxInt32 + 1, math.MinInt32 - 1}) {
		list = append(list, ofMemory(1, -1, 1, n), ofMemory(impl.RegRip, -1, 1, n))
	}
	list = append(list, ofMemory(1, 4, 1, 0), ofMemory(1, -1, 2, 0), ofMemory(1, -1, 8, 0), ofMemory(impl.RegRip, 1, 1, 0))
	for _, n := range fieldNumbers {
		ofKind := right
		ofKind.Reg = n
		list = append(list, ofKind)
		ofKind = right
		ofKind.Imm = n
		list = append(list, ofKind)
	}
	for _, x := range list {
		for _, next := range []int{0, 512, math.MinInt, math.MaxInt} {
			checkAddress(t, fullCpu(), x, next, 0, impl.ErrBad)
		}
	}
	for _, c := range wrongCpus() {
		checkAddress(t, c, right, 512, 0, impl.ErrBad)
		checkAddress(t, c, ofReg(1), 512, 0, impl.ErrBad)
	}
}
