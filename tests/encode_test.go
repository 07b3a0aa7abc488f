package tests

import (
	"math"
	"slices"
	"strings"
	"testing"

	"loop.example/g00664/impl"
)

// checkEncoded asks for the bytes of instructions told by hand, and reads them back.
func checkEncoded(t *testing.T, list []literal) {
	t.Helper()
	for _, v := range list {
		text := bytesOf(t, v.digits)
		for _, v.x.Len = range []int{0, 15, len(text)} {
			if s, code := impl.Encode(v.x); s != text || code != impl.OK || !impl.InstrOK(v.x) {
				t.Errorf("Encode(%+v) = % x, %d, want %s", v.x, s, code, v.digits)
			}
		}
		checkDecode(t, text, 0, v.x, impl.OK)
		checkWithin(t, text, v.x, impl.OK)
		checkCanonical(t, text, 0, true, impl.OK)
		checkCanonical(t, "\x48\x0f"+text+"\x66", 2, true, impl.OK)
	}
}

func checkCanonical(t *testing.T, text string, at int, want bool, code int) {
	t.Helper()
	if yes, c := impl.IsCanonical(text, at); yes != want || c != code {
		t.Errorf("IsCanonical(%.40q, %d) = %v, %d, want %v, %d", text, at, yes, c, want, code)
	}
}

// checkRefused asks for the bytes of what cannot be encoded.
func checkRefused(t *testing.T, list ...impl.Instr) {
	t.Helper()
	for _, x := range list {
		if s, code := impl.Encode(x); s != "" || code != impl.ErrBad || impl.InstrOK(x) {
			t.Errorf("Encode(%+v) = % x, %d", x, s, code)
		}
	}
}

// pair is an instruction of two operands.
func pair(op, size int, dst, src impl.Operand) impl.Instr {
	return impl.Instr{Op: op, Size: size, Dst: dst, Src: src}
}

// extend is movzx or movsx.
func extend(op, size, from int, dst, src impl.Operand) impl.Instr {
	return impl.Instr{Op: op, Size: size, From: from, Dst: dst, Src: src}
}

func TestEncodeTwoRegisters(t *testing.T) {
	two := func(op, size, dst, src int) impl.Instr { return pair(op, size, ofReg(dst), ofReg(src)) }
	checkEncoded(t, []literal{
		{"00 c8", two(impl.OpAdd, 1, 0, 1)},
		{"66 09 d3", two(impl.OpOr, 2, 3, 2)},
		{"11 f7", two(impl.OpAdc, 4, 7, 6)},
		{"48 19 e5", two(impl.OpSbb, 8, 5, 4)},
		{"44 21 c0", two(impl.OpAnd, 4, 0, 8)},
		{"41 29 c7", two(impl.OpSub, 4, 15, 0)},
		{"4d 31 c7", two(impl.OpXor, 8, 15, 8)},
		{"66 45 39 f5", two(impl.OpCmp, 2, 13, 14)},
		{"88 d8", two(impl.OpMov, 1, 0, 3)},
		{"89 d8", two(impl.OpMov, 4, 0, 3)},
		{"84 c8", two(impl.OpTest, 1, 0, 1)},
		{"4c 85 e2", two(impl.OpTest, 8, 2, 12)},
		{"86 e3", two(impl.OpXchg, 1, 3, 16)},
		{"66 87 ca", two(impl.OpXchg, 2, 2, 1)},
		{"48 87 c0", two(impl.OpXchg, 8, 0, 0)},
		{"0f af f7", two(impl.OpImul, 4, 6, 7)},
		{"66 45 0f af c1", two(impl.OpImul, 2, 8, 9)},
		{"d2 e1", two(impl.OpShl, 1, 1, 1)},
		{"66 d3 c2", two(impl.OpRol, 2, 2, 1)},
		{"d3 cb", two(impl.OpRor, 4, 3, 1)},
		{"49 d3 ef", two(impl.OpShr, 8, 15, 1)},
		{"48 d3 fc", two(impl.OpSar, 8, 4, 1)},
		{"0f 40 c1", impl.Instr{Op: impl.OpCmov, Size: 4, Dst: ofReg(0), Src: ofReg(1)}},
		{"4c 0f 4f c1", impl.Instr{Op: impl.OpCmov, Size: 8, Cond: 15, Dst: ofReg(8), Src: ofReg(1)}},
		{"66 0f 48 c1", impl.Instr{Op: impl.OpCmov, Size: 2, Cond: 8, Dst: ofReg(0), Src: ofReg(1)}},
		{"0f b6 c1", extend(impl.OpMovzx, 4, 1, ofReg(0), ofReg(1))},
		{"66 0f be c1", extend(impl.OpMovsx, 2, 1, ofReg(0), ofReg(1))},
		{"48 0f b7 c1", extend(impl.OpMovzx, 8, 2, ofReg(0), ofReg(1))},
		{"44 0f bf c1", extend(impl.OpMovsx, 4, 2, ofReg(8), ofReg(1))},
		{"49 63 c1", extend(impl.OpMovsx, 8, 4, ofReg(0), ofReg(9))},
	})
}

// TestEncodeByteRegisters asks of registers 4 to 7 of size 1, which ask for REX, and of 16 to 19, which go without it.
func TestEncodeByteRegisters(t *testing.T) {
	two := func(op, dst, src int) impl.Instr { return pair(op, 1, ofReg(dst), ofReg(src)) }
	checkEncoded(t, []literal{
		{"40 88 e7", two(impl.OpMov, 7, 4)},
		{"40 88 c5", two(impl.OpMov, 5, 0)},
		{"40 88 f0", two(impl.OpMov, 0, 6)},
		{"45 88 e7", two(impl.OpMov, 15, 12)},
		{"41 88 e0", two(impl.OpMov, 8, 4)},
		{"88 e7", two(impl.OpMov, 19, 16)},
		{"88 ee", two(impl.OpMov, 18, 17)},
		{"80 c4 01", pair(impl.OpAdd, 1, ofReg(16), ofNumber(1))},
		{"40 80 c4 01", pair(impl.OpAdd, 1, ofReg(4), ofNumber(1))},
		{"c6 c7 ff", pair(impl.OpMov, 1, ofReg(19), ofNumber(-1))},
		{"40 c6 c7 ff", pair(impl.OpMov, 1, ofReg(7), ofNumber(-1))},
		{"f6 c5 7f", pair(impl.OpTest, 1, ofReg(17), ofNumber(127))},
		{"c0 e6 07", pair(impl.OpShl, 1, ofReg(18), ofNumber(7))},
		{"d2 ec", two(impl.OpShr, 16, 1)},
		{"40 d2 ec", two(impl.OpShr, 4, 1)},
		{"f6 e4", impl.Instr{Op: impl.OpMul, Size: 1, Src: ofReg(16)}},
		{"40 f6 fe", impl.Instr{Op: impl.OpIdiv, Size: 1, Src: ofReg(6)}},
		{"fe c5", impl.Instr{Op: impl.OpInc, Size: 1, Dst: ofReg(17)}},
		{"0f 92 c6", impl.Instr{Op: impl.OpSetcc, Size: 1, Cond: 2, Dst: ofReg(18)}},
		{"40 0f 92 c6", impl.Instr{Op: impl.OpSetcc, Size: 1, Cond: 2, Dst: ofReg(6)}},
		{"41 0f 92 c6", impl.Instr{Op: impl.OpSetcc, Size: 1, Cond: 2, Dst: ofReg(14)}},
		{"0f b6 e4", extend(impl.OpMovzx, 4, 1, ofReg(4), ofReg(16))},
		{"40 0f b6 e4", extend(impl.OpMovzx, 4, 1, ofReg(4), ofReg(4))},
		{"66 0f be fb", extend(impl.OpMovsx, 2, 1, ofReg(7), ofReg(3))},
		// Registers 4 to 7 ask for REX as bytes alone.
		{"0f b7 e4", extend(impl.OpMovzx, 4, 2, ofReg(4), ofReg(4))},
		{"66 89 f5", pair(impl.OpMov, 2, ofReg(5), ofReg(6))},
		{"88 24 24", pair(impl.OpMov, 1, ofMemory(4, -1, 1, 0), ofReg(16))},
		{"8a 6c 35 00", pair(impl.OpMov, 1, ofReg(17), ofMemory(5, 6, 1, 0))},
		{"40 88 20", pair(impl.OpMov, 1, ofMemory(0, -1, 1, 0), ofReg(4))},
		{"8a 35 10 00 00 00", pair(impl.OpMov, 1, ofReg(18), ofMemory(impl.RegRip, -1, 1, 16))},
		{"8a 3c 25 00 02 00 00", pair(impl.OpMov, 1, ofReg(19), ofMemory(-1, -1, 1, 512))},
	})
}

// TestHighBytesGoWithoutRex sets each thing that asks for REX beside registers 16 to 19.
func TestHighBytesGoWithoutRex(t *testing.T) {
	for high := 16; high <= 19; high++ {
		for _, other := range []impl.Operand{ofReg(4), ofReg(5), ofReg(6), ofReg(7), ofReg(8), ofReg(11), ofReg(15),
			ofMemory(8, -1, 1, 0), ofMemory(15, -1, 1, 300), ofMemory(0, 8, 1, 0), ofMemory(3, 15, 4, 1), ofMemory(-1, 12, 1, 0)} {
			checkRefused(t, pair(impl.OpMov, 1, ofReg(high), other), pair(impl.OpAdd, 1, other, ofReg(high)), pair(impl.OpXchg, 1, other, ofReg(high)))
		}
		for _, other := range []impl.Operand{ofReg(0), ofReg(3), ofReg(16), ofReg(19), ofMemory(7, -1, 1, 0), ofMemory(4, 7, 8, 0), ofMemory(-1, -1, 1, 0), ofMemory(impl.RegRip, -1, 1, 0)} {
			if x := pair(impl.OpCmp, 1, ofReg(high), other); !impl.InstrOK(x) {
				t.Errorf("InstrOK(%+v) is false", x)
			}
		}
		for reg := range 16 {
			for _, size := range []int{2, 4, 8} {
				if x := extend(impl.OpMovsx, size, 1, ofReg(reg), ofReg(high)); impl.InstrOK(x) != (reg < 8 && size != 8) {
					t.Errorf("InstrOK(%+v) is wrong", x)
				}
				checkRefused(t, pair(impl.OpMov, size, ofReg(reg), ofReg(high)), extend(impl.OpMovzx, size, 2, ofReg(reg), ofReg(high)))
			}
		}
		checkRefused(t, impl.Instr{Op: impl.OpPush, Size: 8, Src: ofReg(high)}, impl.Instr{Op: impl.OpPop, Size: 8, Dst: ofReg(high)}, impl.Instr{Op: impl.OpCall, Size: 8, Src: ofReg(high)}, impl.Instr{Op: impl.OpJmp, Size: 8, Src: ofReg(high)})
		checkRefused(t, pair(impl.OpShl, 1, ofReg(0), ofReg(high)))
	}
}

func TestEncodeNumbers(t *testing.T) {
	number := func(op, size, reg, n int) impl.Instr { return pair(op, size, ofReg(reg), ofNumber(n)) }
	checkEncoded(t, []literal{
		{"80 c1 80", number(impl.OpAdd, 1, 1, -128)},
		{"80 f9 7f", number(impl.OpCmp, 1, 1, 127)},
		{"66 83 c9 7f", number(impl.OpOr, 2, 1, 127)},
		{"66 81 d1 80 00", number(impl.OpAdc, 2, 1, 128)},
		{"66 81 d9 00 80", number(impl.OpSbb, 2, 1, -32768)},
		{"83 e1 80", number(impl.OpAnd, 4, 1, -128)},
		{"81 e9 7f ff ff ff", number(impl.OpSub, 4, 1, -129)},
		{"81 f0 ff ff ff 7f", number(impl.OpXor, 4, 0, math.MaxInt32)},
		{"49 83 f8 00", number(impl.OpCmp, 8, 8, 0)},
		{"48 81 c4 00 00 00 80", number(impl.OpAdd, 8, 4, math.MinInt32)},
		{"c6 c1 7f", number(impl.OpMov, 1, 1, 127)},
		{"66 c7 c1 01 00", number(impl.OpMov, 2, 1, 1)},
		{"c7 c1 01 00 00 00", number(impl.OpMov, 4, 1, 1)},
		{"48 c7 c1 00 00 00 80", number(impl.OpMov, 8, 1, math.MinInt32)},
		{"48 c7 c1 ff ff ff 7f", number(impl.OpMov, 8, 1, math.MaxInt32)},
		{"48 b9 00 00 00 80 00 00 00 00", number(impl.OpMov, 8, 1, math.MaxInt32+1)},
		{"49 bc ff ff ff 7f ff ff ff ff", number(impl.OpMov, 8, 12, math.MinInt32-1)},
		{"48 bf ff ff ff ff ff ff ff 7f", number(impl.OpMov, 8, 7, math.MaxInt)},
		{"49 bf 00 00 00 00 00 00 00 80", number(impl.OpMov, 8, 15, math.MinInt)},
		{"f6 c0 01", number(impl.OpTest, 1, 0, 1)},
		{"66 f7 c0 01 00", number(impl.OpTest, 2, 0, 1)},
		{"48 f7 c0 ff ff ff ff", number(impl.OpTest, 8, 0, -1)},
		{"c0 c0 01", number(impl.OpRol, 1, 0, 1)},
		{"66 c1 c8 00", number(impl.OpRor, 2, 0, 0)},
		{"c1 e0 ff", number(impl.OpShl, 4, 0, 255)},
		{"48 c1 e8 80", number(impl.OpShr, 8, 0, 128)},
		{"41 c1 f9 1f", number(impl.OpSar, 4, 9, 31)},
	})
}

func TestNumbersThatAreTooLarge(t *testing.T) {
	for _, dst := range []impl.Operand{ofReg(1), ofMemory(3, -1, 1, 0)} {
		for _, op := range []int{impl.OpAdd, impl.OpCmp, impl.OpMov, impl.OpTest} {
			for _, v := range []struct{ size, n int }{
				{1, 128}, {1, -129}, {1, 255}, {2, 32768}, {2, -32769}, {2, 65535}, {4, math.MaxInt32 + 1}, {4, math.MinInt32 - 1}, {4, math.MaxUint32}, {4, math.MaxInt}, {4, math.MinInt},
			} {
				checkRefused(t, pair(op, v.size, dst, ofNumber(v.n)))
			}
			for _, n := range []int{math.MaxInt32 + 1, math.MinInt32 - 1, math.MaxInt, math.MinInt} {
				if x := pair(op, 8, dst, ofNumber(n)); impl.InstrOK(x) != (op == impl.OpMov && dst.Kind == impl.KindReg) {
					t.Errorf("InstrOK(%+v) is wrong", x)
				}
			}
		}
		for _, n := range []int{-1, 256, math.MaxInt, math.MinInt} {
			for _, size := range sizes {
				checkRefused(t, pair(impl.OpRol, size, dst, ofNumber(n)), pair(impl.OpSar, size, dst, ofNumber(n)))
			}
			checkRefused(t, impl.Instr{Op: impl.OpInt, Src: ofNumber(n)})
		}
	}
	for _, n := range []int{math.MaxInt32 + 1, math.MinInt32 - 1, math.MaxUint32, math.MaxInt, math.MinInt} {
		for _, op := range []int{impl.OpPush, impl.OpCall, impl.OpJmp} {
			checkRefused(t, impl.Instr{Op: op, Size: 8, Src: ofNumber(n)})
		}
		checkRefused(t, impl.Instr{Op: impl.OpJcc, Src: ofNumber(n)})
	}
}

func TestEncodeOneOperand(t *testing.T) {
	src := func(op int, x impl.Operand) impl.Instr { return impl.Instr{Op: op, Size: 8, Src: x} }
	jcc := func(cond, n int) impl.Instr { return impl.Instr{Op: impl.OpJcc, Cond: cond, Src: ofNumber(n)} }
	checkEncoded(t, []literal{
		{"50", src(impl.OpPush, ofReg(0))},
		{"41 57", src(impl.OpPush, ofReg(15))},
		{"54", src(impl.OpPush, ofReg(4))},
		{"5f", impl.Instr{Op: impl.OpPop, Size: 8, Dst: ofReg(7)}},
		{"41 58", impl.Instr{Op: impl.OpPop, Size: 8, Dst: ofReg(8)}},
		{"ff 73 08", src(impl.OpPush, ofMemory(3, -1, 1, 8))},
		{"41 ff 34 24", src(impl.OpPush, ofMemory(12, -1, 1, 0))},
		{"8f 45 00", impl.Instr{Op: impl.OpPop, Size: 8, Dst: ofMemory(5, -1, 1, 0)}},
		{"6a 7f", src(impl.OpPush, ofNumber(127))},
		{"6a 80", src(impl.OpPush, ofNumber(-128))},
		{"68 80 00 00 00", src(impl.OpPush, ofNumber(128))},
		{"68 7f ff ff ff", src(impl.OpPush, ofNumber(-129))},
		{"68 00 00 00 80", src(impl.OpPush, ofNumber(math.MinInt32))},
		{"ff d0", src(impl.OpCall, ofReg(0))},
		{"42 ff 14 3d 00 00 00 00", src(impl.OpCall, ofMemory(-1, 15, 1, 0))},
		{"e8 ff ff ff 7f", src(impl.OpCall, ofNumber(math.MaxInt32))},
		{"41 ff e3", src(impl.OpJmp, ofReg(11))},
		{"ff 25 01 00 00 00", src(impl.OpJmp, ofMemory(impl.RegRip, -1, 1, 1))},
		{"e9 01 00 00 00", src(impl.OpJmp, ofNumber(1))},
		{"e9 fb ff ff ff", src(impl.OpJmp, ofNumber(-5))},
		{"0f 80 00 00 00 00", jcc(0, 0)},
		{"0f 8f 00 00 00 80", jcc(15, math.MinInt32)},
		{"0f 85 7f 00 00 00", jcc(5, 127)},
		{"cd 00", impl.Instr{Op: impl.OpInt, Src: ofNumber(0)}},
		{"cd ff", impl.Instr{Op: impl.OpInt, Src: ofNumber(255)}},
		{"f6 d0", impl.Instr{Op: impl.OpNot, Size: 1, Dst: ofReg(0)}},
		{"66 f7 d8", impl.Instr{Op: impl.OpNeg, Size: 2, Dst: ofReg(0)}},
		{"f7 20", impl.Instr{Op: impl.OpMul, Size: 4, Src: ofMemory(0, -1, 1, 0)}},
		{"48 f7 e9", impl.Instr{Op: impl.OpImul1, Size: 8, Src: ofReg(1)}},
		{"41 f7 f2", impl.Instr{Op: impl.OpDiv, Size: 4, Src: ofReg(10)}},
		{"66 f7 3e", impl.Instr{Op: impl.OpIdiv, Size: 2, Src: ofMemory(6, -1, 1, 0)}},
		{"fe 00", impl.Instr{Op: impl.OpInc, Size: 1, Dst: ofMemory(0, -1, 1, 0)}},
		{"ff c3", impl.Instr{Op: impl.OpInc, Size: 4, Dst: ofReg(3)}},
		{"48 ff 0b", impl.Instr{Op: impl.OpDec, Size: 8, Dst: ofMemory(3, -1, 1, 0)}},
		{"0f 9f 43 80", impl.Instr{Op: impl.OpSetcc, Size: 1, Cond: 15, Dst: ofMemory(3, -1, 1, -128)}},
	})
}

func TestEncodeWithoutOperands(t *testing.T) {
	checkEncoded(t, []literal{
		{"66 98", impl.Instr{Op: impl.OpCwide, Size: 2}},
		{"98", impl.Instr{Op: impl.OpCwide, Size: 4}},
		{"48 98", impl.Instr{Op: impl.OpCwide, Size: 8}},
		{"66 99", impl.Instr{Op: impl.OpCsign, Size: 2}},
		{"99", impl.Instr{Op: impl.OpCsign, Size: 4}},
		{"48 99", impl.Instr{Op: impl.OpCsign, Size: 8}},
		{"aa", impl.Instr{Op: impl.OpStos, Size: 1}},
		{"a4", impl.Instr{Op: impl.OpMovs, Size: 1}},
		{"c3", impl.Instr{Op: impl.OpRet}},
		{"90", impl.Instr{Op: impl.OpNop}},
		{"f4", impl.Instr{Op: impl.OpHlt}},
		{"0f 05", impl.Instr{Op: impl.OpSyscall}},
	})
}

// TestEncodeMemory asks of Bases whose lowest bits are 4 or 5, of none, and of RegRip, with and without Index and Disp.
func TestEncodeMemory(t *testing.T) {
	checkEncoded(t, []literal{
		{"8b 00", load(0, -1, 1, 0)},
		{"8b 40 01", load(0, -1, 1, 1)},
		{"8b 40 ff", load(0, -1, 1, -1)},
		{"8b 47 7f", load(7, -1, 1, 127)},
		{"8b 87 80 00 00 00", load(7, -1, 1, 128)},
		{"8b 47 80", load(7, -1, 1, -128)},
		{"8b 87 7f ff ff ff", load(7, -1, 1, -129)},
		{"41 8b 00", load(8, -1, 1, 0)},
		{"8b 04 24", load(4, -1, 1, 0)},
		{"8b 44 24 7f", load(4, -1, 1, 127)},
		{"8b 84 24 00 01 00 00", load(4, -1, 1, 256)},
		{"41 8b 04 24", load(12, -1, 1, 0)},
		{"41 8b 44 24 f8", load(12, -1, 1, -8)},
		{"41 8b 84 24 00 00 00 80", load(12, -1, 1, math.MinInt32)},
		{"8b 45 00", load(5, -1, 1, 0)},
		{"8b 45 08", load(5, -1, 1, 8)},
		{"8b 85 ff ff ff 7f", load(5, -1, 1, math.MaxInt32)},
		{"41 8b 45 00", load(13, -1, 1, 0)},
		{"41 8b 45 f8", load(13, -1, 1, -8)},
		{"41 8b 85 00 01 00 00", load(13, -1, 1, 256)},
		{"8b 04 08", load(0, 1, 1, 0)},
		{"8b 04 48", load(0, 1, 2, 0)},
		{"8b 04 88", load(0, 1, 4, 0)},
		{"8b 04 c8", load(0, 1, 8, 0)},
		{"42 8b 04 20", load(0, 12, 1, 0)},
		{"42 8b 04 e4", load(4, 12, 8, 0)},
		{"43 8b 04 a4", load(12, 12, 4, 0)},
		{"8b 44 2d 00", load(5, 5, 1, 0)},
		{"43 8b 44 ed 00", load(13, 13, 8, 0)},
		{"41 8b 44 05 00", load(13, 0, 1, 0)},
		{"42 8b 84 7b 80 00 00 00", load(3, 15, 2, 128)},
		{"8b 04 25 00 00 00 00", load(-1, -1, 1, 0)},
		{"8b 04 25 ff ff ff ff", load(-1, -1, 1, -1)},
		{"8b 04 05 00 00 00 00", load(-1, 0, 1, 0)},
		{"8b 04 6d 01 00 00 00", load(-1, 5, 2, 1)},
		{"42 8b 04 e5 00 00 00 80", load(-1, 12, 8, math.MinInt32)},
		{"8b 05 00 00 00 00", load(impl.RegRip, -1, 1, 0)},
		{"8b 05 01 00 00 00", load(impl.RegRip, -1, 1, 1)},
		{"44 89 3c 24", pair(impl.OpMov, 4, ofMemory(4, -1, 1, 0), ofReg(15))},
		{"4f 03 44 7e 10", pair(impl.OpAdd, 8, ofReg(8), ofMemory(14, 15, 2, 16))},
		{"48 8d 44 24 08", pair(impl.OpLea, 8, ofReg(0), ofMemory(4, -1, 1, 8))},
		{"66 8d 00", pair(impl.OpLea, 2, ofReg(0), ofMemory(0, -1, 1, 0))},
		{"48 c7 44 24 08 ff ff ff ff", pair(impl.OpMov, 8, ofMemory(4, -1, 1, 8), ofNumber(-1))},
		{"66 43 c7 84 c5 00 01 00 00 34 12", pair(impl.OpMov, 2, ofMemory(13, 8, 8, 256), ofNumber(0x1234))},
		{"83 38 01", pair(impl.OpCmp, 4, ofMemory(0, -1, 1, 0), ofNumber(1))},
		{"84 00", pair(impl.OpTest, 1, ofMemory(0, -1, 1, 0), ofReg(0))},
		{"d3 20", pair(impl.OpShl, 4, ofMemory(0, -1, 1, 0), ofReg(1))},
		{"c0 38 03", pair(impl.OpSar, 1, ofMemory(0, -1, 1, 0), ofNumber(3))},
		{"0f b6 05 00 00 00 00", extend(impl.OpMovzx, 4, 1, ofReg(0), ofMemory(impl.RegRip, -1, 1, 0))},
	})
}

// TestWrongInstructions asks of what has one thing too many, too few or other than it may.
func TestWrongInstructions(t *testing.T) {
	nop := impl.Instr{Op: impl.OpNop}
	checkRefused(t, impl.Instr{})
	for _, op := range wrongOps {
		checkRefused(t, impl.Instr{Op: op}, impl.Instr{Op: op, Size: 4, Dst: ofReg(0), Src: ofReg(1)}, impl.Instr{Op: op, Size: 8, Src: ofNumber(1)})
	}
	for _, nop.Len = range slices.Concat([]int{-1, 16, 17, 255}, farNumbers) {
		checkRefused(t, nop)
	}
	for _, x := range []impl.Operand{ofReg(0), ofReg(16), ofNumber(0), ofNumber(1), ofMemory(0, -1, 1, 0), {Reg: 1}, {Scale: 1}, {Index: -1}, {Imm: 1}, {Kind: 4}, {Kind: -1}} {
		for _, op := range []int{impl.OpNop, impl.OpRet, impl.OpHlt, impl.OpSyscall} {
			checkRefused(t, impl.Instr{Op: op, Dst: x}, impl.Instr{Op: op, Src: x})
		}
		checkRefused(t, impl.Instr{Op: impl.OpStos, Size: 1, Dst: x}, impl.Instr{Op: impl.OpCwide, Size: 4, Src: x}, impl.Instr{Op: impl.OpInt, Dst: x, Src: ofNumber(3)}, impl.Instr{Op: impl.OpJcc, Dst: x, Src: ofNumber(3)},
			impl.Instr{Op: impl.OpPush, Size: 8, Dst: x, Src: ofReg(0)}, impl.Instr{Op: impl.OpPop, Size: 8, Dst: ofReg(0), Src: x}, impl.Instr{Op: impl.OpMul, Size: 4, Dst: x, Src: ofReg(0)}, impl.Instr{Op: impl.OpNeg, Size: 4, Dst: ofReg(0), Src: x})
	}
	// Numbers of Size 0 are right as operands, too.
	checkRefused(t, impl.Instr{Op: impl.OpJcc, Src: impl.Operand{Kind: impl.KindImm, Imm: 1, Reg: 1}}, impl.Instr{Op: impl.OpInt, Src: impl.Operand{Kind: impl.KindImm, Imm: 1, Scale: 1}})
	for reg := -1; reg <= 20; reg++ {
		if x := pair(impl.OpShr, 4, ofReg(0), ofReg(reg)); impl.InstrOK(x) != (reg == 1) {
			t.Errorf("InstrOK(%+v) is wrong", x)
		}
	}
}

// longest is an instruction of as many bytes as any has.
var longest = pair(impl.OpMov, 8, ofMemory(12, 13, 8, 1000), ofNumber(100000))

func checkEncodeAll(t *testing.T, list []impl.Instr, text string, code int) {
	t.Helper()
	if s, c := impl.EncodeAll(list); s != text || c != code {
		t.Errorf("EncodeAll of %d = %d bytes %.40q, %d, want %d bytes %.40q, %d", len(list), len(s), s, c, len(text), text, code)
	}
}

func TestEncodeAll(t *testing.T) {
	fair := fairInstrs(newEncodings(t))[:500]
	checkEncodeAll(t, nil, "", impl.OK)
	checkEncodeAll(t, []impl.Instr{}, "", impl.OK)
	var texts []string
	for i, x := range fair {
		text, _ := impl.Encode(x)
		texts = append(texts, text)
		checkEncodeAll(t, fair[i:i+1], text, impl.OK)
		fair[i].Len = len(text)
	}
	all := strings.Join(texts, "")
	checkEncodeAll(t, fair, all, impl.OK)
	if list, where, code := impl.DecodeAll(all); !slices.Equal(list, fair) || where != 0 || code != impl.OK {
		t.Error("instructions are not read back:", len(list), where, code)
	}
	for i := range fair {
		for _, wrong := range []impl.Instr{{}, {Op: impl.OpNop, Len: -1}, {Op: 45}} {
			list := slices.Clone(fair)
			list[i] = wrong
			if i%50 == 0 || i == len(fair)-1 {
				checkEncodeAll(t, list, "", impl.ErrBad)
			}
		}
	}
}

// TestEncodeAllOfManyInstructions asks of as many as a list may have, and one more. The longest have 12 bytes each, so that all of them have less than MaxText.
func TestEncodeAllOfManyInstructions(t *testing.T) {
	text, _ := impl.Encode(longest)
	if len(text) != 12 {
		t.Errorf("the longest instruction has %d bytes", len(text))
	}
	for _, x := range []impl.Instr{longest, {Op: impl.OpNop}} {
		one, _ := impl.Encode(x)
		list := slices.Repeat([]impl.Instr{x}, impl.MaxList)
		checkEncodeAll(t, list, strings.Repeat(one, impl.MaxList), impl.OK)
		checkEncodeAll(t, append(list, x), "", impl.ErrLong)
		list[impl.MaxList-1] = impl.Instr{}
		checkEncodeAll(t, list, "", impl.ErrBad)
		// ErrLong comes ahead of all other codes.
		checkEncodeAll(t, append(list, x), "", impl.ErrLong)
		checkEncodeAll(t, make([]impl.Instr, impl.MaxList+1), "", impl.ErrLong)
	}
}

// TestNoInstructionIsLonger looks that MaxList instructions never have more than MaxText bytes, so that EncodeAll has no list of which ErrFull is due.
func TestNoInstructionIsLonger(t *testing.T) {
	m := newEncodings(t)
	for _, place := range []impl.Operand{ofMemory(12, 13, 8, 1000), ofMemory(-1, 13, 8, 0), ofMemory(impl.RegRip, -1, 1, 0)} {
		for _, n := range []int{1000, 100, 200} {
			for op := impl.OpAdd; op <= impl.OpInt; op++ {
				for _, size := range instrSizes[:5] {
					for _, x := range []impl.Instr{pair(op, size, place, ofNumber(n)), pair(op, size, place, ofReg(15)), pair(op, size, ofReg(15), place), {Op: op, Size: size, Src: place}, {Op: op, Size: size, Dst: place}} {
						if text, code := impl.Encode(x); len(text) > 12 || (code == impl.OK) != m.mayBe(x) {
							t.Errorf("Encode(%+v) has %d bytes, %d", x, len(text), code)
						}
					}
				}
			}
		}
	}
}

// TestCanonical tells the bytes that Encode gives from others that are the same instruction.
func TestCanonical(t *testing.T) {
	for _, v := range []struct {
		digits string
		want   bool
	}{
		{"89 d8", true}, {"8b c3", false}, // mov of two registers
		{"8b 03", true}, {"40 8b 03", false}, {"8b 43 00", false}, {"8b 83 00 00 00 00", false}, {"8b 04 23", false}, {"8b 04 63", false}, {"48 8b 03", true}, {"66 48 8b 03", false}, {"44 8b 03", true}, {"42 8b 03", false},
		{"8b 04 24", true}, {"8b 04 64", false}, {"8b 44 24 00", false}, {"42 8b 04 24", true}, {"41 8b 04 24", true}, {"43 8b 04 24", true}, {"41 8b 44 24 00", false}, {"41 8b 45 00", true}, {"41 8b 85 00 00 00 00", false}, {"8b 45 7f", true}, {"8b 85 7f 00 00 00", false}, {"8b 85 80 00 00 00", true},
		{"8b 05 00 00 00 00", true}, {"41 8b 05 00 00 00 00", false}, {"8b 04 25 00 00 00 00", true}, {"8b 04 65 00 00 00 00", false}, {"41 8b 04 25 00 00 00 00", false}, {"8b 04 05 00 00 00 00", true},
		{"83 c0 01", true}, {"81 c0 01 00 00 00", false}, {"05 01 00 00 00", false}, {"81 c0 80 00 00 00", true}, {"05 80 00 00 00", false}, {"80 c0 01", true}, {"04 01", false}, {"66 83 c0 7f", true}, {"66 81 c0 7f 00", false},
		{"c7 c0 01 00 00 00", true}, {"b8 01 00 00 00", false}, {"48 c7 c0 01 00 00 00", true}, {"48 b8 01 00 00 00 00 00 00 00", false}, {"48 b8 01 00 00 80 00 00 00 00", true}, {"c6 c0 01", true}, {"b0 01", false},
		{"f7 c0 01 00 00 00", true}, {"a9 01 00 00 00", false}, {"f6 c0 01", true}, {"a8 01", false},
		{"c1 e0 01", true}, {"d1 e0", false}, {"d3 e0", true}, {"c1 e0 02", true},
		{"6a 01", true}, {"68 01 00 00 00", false}, {"68 80 00 00 00", true}, {"50", true}, {"ff f0", false}, {"48 50", false}, {"58", true}, {"8f c0", false}, {"41 50", true}, {"42 50", false},
		{"e9 00 00 00 00", true}, {"eb 00", false}, {"0f 84 00 00 00 00", true}, {"74 00", false}, {"e8 00 00 00 00", true}, {"48 e8 00 00 00 00", false},
		{"0f 94 c0", true}, {"0f 94 c8", false}, {"0f 94 f8", false}, {"44 0f 94 c0", false}, {"90", true}, {"40 90", false}, {"48 90", false}, {"a4", true}, {"48 a4", false}, {"98", true}, {"48 98", true}, {"47 98", false}, {"66 48 98", false},
		{"40 88 e0", true}, {"88 e0", true}, {"40 88 c8", false}, {"48 88 c8", false}, {"40 0f b6 e4", true}, {"0f b6 e4", true}, {"40 0f b7 e4", false}, {"48 63 c1", true}, {"66 48 63 c1", false},
	} {
		text := bytesOf(t, v.digits)
		checkCanonical(t, text, 0, v.want, impl.OK)
		checkCanonical(t, "\x90\x66"+text+"\x90", 2, v.want, impl.OK)
		for n := range len(text) {
			checkCanonical(t, text[:n], 0, false, impl.ErrEnd)
		}
		checkCanonical(t, text, len(text), false, impl.ErrEnd)
		checkCanonical(t, text, len(text)+1, false, impl.ErrRange)
		checkCanonical(t, text, -1, false, impl.ErrRange)
	}
}

func TestCanonicalOfWrongTexts(t *testing.T) {
	checkCanonical(t, "", 0, false, impl.ErrEnd)
	checkCanonical(t, "", 1, false, impl.ErrRange)
	for _, at := range farNumbers {
		checkCanonical(t, "\x90", at, false, impl.ErrRange)
	}
	checkCanonical(t, "\x66\x66\x90", 0, false, impl.ErrPrefix)
	checkCanonical(t, "\x66\x50", 0, false, impl.ErrPrefix)
	checkCanonical(t, "\x0f\x0b", 0, false, impl.ErrOpcode)
	checkCanonical(t, "\xc1\xf0\x01", 0, false, impl.ErrOpcode)
	checkCanonical(t, "\x8d\xc0", 0, false, impl.ErrOperand)
	full := strings.Repeat("\x90", impl.MaxText)
	checkCanonical(t, full, impl.MaxText-1, true, impl.OK)
	checkCanonical(t, full, impl.MaxText, false, impl.ErrEnd)
	for _, at := range []int{0, -1, impl.MaxText, impl.MaxText + 1, impl.MaxText + 2} {
		checkCanonical(t, full+"\x90", at, false, impl.ErrLong)
	}
}
