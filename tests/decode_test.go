package tests

import (
	"encoding/hex"
	"math"
	"math/rand"
	"slices"
	"strings"
	"testing"

	"loop.example/g00664/impl"
)

// allRex are none and each REX.
var allRex = []int{0, 64, 65, 66, 67, 68, 69, 70, 71, 72, 73, 74, 75, 76, 77, 78, 79}

// draftDisps and draftNumbers are of lengths that have no divisor in common, so that pairs of them differ.
var (
	draftDisps   = []int{0, 1, -1, 127, -128, 8, 128, -129, math.MaxInt32, math.MinInt32, 0x12345678, -0x12345678, 255}
	draftNumbers = []int{1, -1, 0, 127, -128, 128, 0x7fff, -0x8000, 0x8000, math.MaxInt32, math.MinInt32, 1 << 31, 0x0102030405060708, math.MaxInt, math.MinInt, -2}
)

// bytesOf reads two digits a byte, with blanks between.
func bytesOf(t *testing.T, digits string) string {
	b, err := hex.DecodeString(strings.ReplaceAll(digits, " ", ""))
	if err != nil {
		t.Fatalf("the tests' own digits %q: %v", digits, err)
	}
	return string(b)
}

func checkDecode(t *testing.T, text string, at int, want impl.Instr, code int) {
	t.Helper()
	if x, c := impl.Decode(text, at); x != want || c != code {
		t.Errorf("Decode(%.40q, %d) = %+v, %d, want %+v, %d", text, at, x, c, want, code)
	}
	if n, c := impl.LengthAt(text, at); n != want.Len || c != code {
		t.Errorf("LengthAt(%.40q, %d) = %d, %d, want %d, %d", text, at, n, c, want.Len, code)
	}
}

// checkWithin decodes a text that stands behind other bytes and ahead of others.
func checkWithin(t *testing.T, text string, want impl.Instr, code int) {
	t.Helper()
	checkDecode(t, "\x66\x48\x0f"+text+"\xff\x66\x05\x90\x90\x90\x90\x90\x90", 3, want, code)
}

// checkCuts decodes a text that is cut off at each of its bytes; as all of them are needed, there is an end ahead of all else.
func checkCuts(t *testing.T, text string) {
	t.Helper()
	for n := range len(text) {
		checkDecode(t, text[:n], 0, impl.Instr{}, impl.ErrEnd)
		checkDecode(t, "\x90"+text[:n], 1, impl.Instr{}, impl.ErrEnd)
	}
}

// eachDraft makes the drafts of each byte of both tables, with each ModRM if the byte has one, and each of these SIBs if that has one.
func eachDraft(t *testing.T, rexes, modrms, sibs []int, use func(drafting)) {
	shapes := shapesOfBoth(t)
	count := 0
	offer := func(d draft) {
		d.disp, d.number = draftDisps[count%len(draftDisps)], draftNumbers[count%len(draftNumbers)]
		count++
		use(d.drafted(t, shapes))
	}
	for i := range 4 * 256 * len(rexes) {
		d := draft{narrow: i&1 != 0, second: i&2 != 0, b: i >> 2 & 255, rex: rexes[i>>10]}
		shape, there := shapes[d.second][d.b]
		switch {
		case !d.isDraft():
		case !there || !slices.Contains(formsWithModRM, chapterForms[shape.Form-1]):
			offer(d)
		default:
			for _, d.modrm = range modrms {
				if d.modrm&7 != 4 || d.modrm >= 192 {
					offer(d)
					continue
				}
				for _, d.sib = range sibs {
					offer(d)
				}
			}
		}
	}
}

func upTo(n int) []int {
	list := make([]int, n)
	for i := range list {
		list[i] = i
	}
	return list
}

func TestDecodeLimits(t *testing.T) {
	if impl.MaxLength != 15 || impl.RegRip != 16 || impl.KindReg != 1 || impl.KindMem != 2 || impl.KindImm != 3 {
		t.Error(impl.MaxLength, impl.RegRip, impl.KindReg, impl.KindMem, impl.KindImm)
	}
}

// TestEachOperation decodes each byte of both tables with each REX, a byte 102 or none, and each ModRM.
func TestEachOperation(t *testing.T) {
	eachDraft(t, allRex, upTo(256), []int{0x25, 0x98}, func(d drafting) {
		text := "\x48\x0f" + d.text + "\x90\x66\x48\x90\x90\x90"
		if x, code := impl.Decode(text, 2); x != d.x || code != d.code {
			t.Fatalf("Decode of % x = %+v, %d, want %+v, %d", d.text, x, code, d.x, d.code)
		}
	})
}

// TestEachSib decodes each SIB with each REX and each mod, ahead of Disp of all lengths, and a number behind it.
func TestEachSib(t *testing.T) {
	shapes := shapesOfBoth(t)
	count := 0
	for _, d := range []draft{{b: 139}, {b: 136}, {b: 199}, {b: 192}, {b: 255, modrm: 6 << 3}, {b: 0xb6, second: true}, {b: 141}} {
		for _, d.rex = range allRex {
			for mod := range 3 {
				d.modrm = d.modrm&56 + mod<<6 + 4
				for _, d.sib = range upTo(256) {
					d.disp, d.number = draftDisps[count%len(draftDisps)], draftNumbers[count%len(draftNumbers)]
					count++
					if made := d.drafted(t, shapes); made.code != impl.OK {
						t.Fatalf("the tests' own draft % x has the code %d", made.text, made.code)
					} else if x, code := impl.Decode("\x90"+made.text+"\x0f", 1); x != made.x || code != made.code {
						t.Fatalf("Decode of % x = %+v, %d, want %+v", made.text, x, code, made.x)
					}
				}
			}
		}
	}
}

// TestEachOperationCutOff cuts instructions off at each of their bytes, and looks that nothing behind the byte that tells a code is asked for.
func TestEachOperationCutOff(t *testing.T) {
	modrms := []int{0, 1, 4, 5, 7, 64, 68, 69, 128, 132, 133, 192, 196, 199}
	for digit := 1; digit < 8; digit++ {
		modrms = append(modrms, digit<<3, digit<<3+4, digit<<3+128, digit<<3+192)
	}
	eachDraft(t, []int{0, 64, 72, 77}, modrms, []int{0x25, 0x98}, func(d drafting) {
		if x, code := impl.Decode(d.text, 0); x != d.x || code != d.code {
			t.Fatalf("Decode of % x alone = %+v, %d, want %+v, %d", d.text, x, code, d.x, d.code)
		}
		for n := range len(d.text) {
			if x, code := impl.Decode(d.text[:n], 0); x != (impl.Instr{}) || code != impl.ErrEnd {
				t.Fatalf("Decode of % x, cut off at %d, = %+v, %d", d.text, n, x, code)
			}
		}
	})
}

// operandSizes are the sizes of Dst and Src, as chapter 6 tells them.
func operandSizes(x impl.Instr) (int, int) {
	switch {
	case x.From != 0:
		return x.Size, x.From
	case x.Size == 0:
		return 8, 8
	case impl.OpRol <= x.Op && x.Op <= impl.OpSar:
		return x.Size, 8
	}
	return x.Size, x.Size
}

// TestOperandsOfInstructionsAreRight holds for P5: what is decoded has operands that OperandOK takes.
func TestOperandsOfInstructionsAreRight(t *testing.T) {
	eachDraft(t, []int{0, 64, 71, 79}, upTo(256), []int{0x25, 0x65, 0xff}, func(d drafting) {
		x, code := impl.Decode(d.text, 0)
		if code != impl.OK {
			return
		}
		dst, src := operandSizes(x)
		if !impl.OperandOK(x.Dst, dst) || !impl.OperandOK(x.Src, src) || x.Len < 1 || x.Len > impl.MaxLength {
			t.Fatalf("% x: %+v", d.text, x)
		}
	})
}

// literal is an instruction told by hand.
type literal struct {
	digits string
	x      impl.Instr
}

func checkLiterals(t *testing.T, list []literal) {
	t.Helper()
	for _, v := range list {
		text := bytesOf(t, v.digits)
		v.x.Len = len(text)
		checkDecode(t, text, 0, v.x, impl.OK)
		checkWithin(t, text, v.x, impl.OK)
		checkCuts(t, text)
	}
}

func TestDecodeWithoutOperands(t *testing.T) {
	checkLiterals(t, []literal{
		{"90", impl.Instr{Op: impl.OpNop}},
		{"40 90", impl.Instr{Op: impl.OpNop}},
		{"4f 90", impl.Instr{Op: impl.OpNop}},
		{"f4", impl.Instr{Op: impl.OpHlt}},
		{"c3", impl.Instr{Op: impl.OpRet}},
		{"48 c3", impl.Instr{Op: impl.OpRet}},
		{"0f 05", impl.Instr{Op: impl.OpSyscall}},
		{"4b 0f 05", impl.Instr{Op: impl.OpSyscall}},
		{"98", impl.Instr{Op: impl.OpCwide, Size: 4}},
		{"66 98", impl.Instr{Op: impl.OpCwide, Size: 2}},
		{"48 98", impl.Instr{Op: impl.OpCwide, Size: 8}},
		{"66 48 98", impl.Instr{Op: impl.OpCwide, Size: 8}},
		{"66 47 98", impl.Instr{Op: impl.OpCwide, Size: 2}},
		{"99", impl.Instr{Op: impl.OpCsign, Size: 4}},
		{"66 99", impl.Instr{Op: impl.OpCsign, Size: 2}},
		{"49 99", impl.Instr{Op: impl.OpCsign, Size: 8}},
		{"a4", impl.Instr{Op: impl.OpMovs, Size: 1}},
		{"48 a4", impl.Instr{Op: impl.OpMovs, Size: 1}},
		{"aa", impl.Instr{Op: impl.OpStos, Size: 1}},
		{"4f aa", impl.Instr{Op: impl.OpStos, Size: 1}},
	})
}

func TestDecodeNumbers(t *testing.T) {
	number := func(op, size, n int) impl.Instr { return impl.Instr{Op: op, Size: size, Src: ofNumber(n)} }
	checkLiterals(t, []literal{
		{"cd 00", number(impl.OpInt, 0, 0)},
		{"cd 7f", number(impl.OpInt, 0, 127)},
		{"cd 80", number(impl.OpInt, 0, 128)},
		{"48 cd ff", number(impl.OpInt, 0, 255)},
		{"6a 7f", number(impl.OpPush, 8, 127)},
		{"6a 80", number(impl.OpPush, 8, -128)},
		{"40 6a ff", number(impl.OpPush, 8, -1)},
		{"68 ff ff ff 7f", number(impl.OpPush, 8, math.MaxInt32)},
		{"48 68 00 00 00 80", number(impl.OpPush, 8, math.MinInt32)},
		{"e8 01 02 03 04", number(impl.OpCall, 8, 0x04030201)},
		{"e9 00 00 00 80", number(impl.OpJmp, 8, math.MinInt32)},
		{"49 e9 80 00 00 00", number(impl.OpJmp, 8, 128)},
		{"eb 80", number(impl.OpJmp, 8, -128)},
		{"eb 7f", number(impl.OpJmp, 8, 127)},
		{"70 80", impl.Instr{Op: impl.OpJcc, Cond: 0, Src: ofNumber(-128)}},
		{"48 7f 7f", impl.Instr{Op: impl.OpJcc, Cond: 15, Src: ofNumber(127)}},
		{"0f 80 ff 00 00 00", impl.Instr{Op: impl.OpJcc, Cond: 0, Src: ofNumber(255)}},
		{"0f 8f ff ff ff ff", impl.Instr{Op: impl.OpJcc, Cond: 15, Src: ofNumber(-1)}},
		{"41 0f 8a 00 00 00 80", impl.Instr{Op: impl.OpJcc, Cond: 10, Src: ofNumber(math.MinInt32)}},
	})
}

func TestDecodeRegistersAndNumbers(t *testing.T) {
	both := func(op, size, reg, n int) impl.Instr {
		return impl.Instr{Op: op, Size: size, Dst: ofReg(reg), Src: ofNumber(n)}
	}
	checkLiterals(t, []literal{
		{"04 80", both(impl.OpAdd, 1, 0, -128)},
		{"4f 3c 7f", both(impl.OpCmp, 1, 0, 127)},
		{"66 2d 00 80", both(impl.OpSub, 2, 0, -32768)},
		{"0d ff ff ff 7f", both(impl.OpOr, 4, 0, math.MaxInt32)},
		{"48 25 00 00 00 80", both(impl.OpAnd, 8, 0, math.MinInt32)},
		{"66 49 35 01 00 00 00", both(impl.OpXor, 8, 0, 1)},
		{"a8 ff", both(impl.OpTest, 1, 0, -1)},
		{"66 a9 ff 7f", both(impl.OpTest, 2, 0, 32767)},
		{"48 a9 ff ff ff ff", both(impl.OpTest, 8, 0, -1)},
		{"b3 ff", both(impl.OpMov, 1, 3, -1)},
		{"41 b3 01", both(impl.OpMov, 1, 11, 1)},
		{"66 bf 00 80", both(impl.OpMov, 2, 7, -32768)},
		{"bd 00 00 00 80", both(impl.OpMov, 4, 5, math.MinInt32)},
		{"44 bd ff ff ff ff", both(impl.OpMov, 4, 5, -1)},
		{"48 b8 08 07 06 05 04 03 02 01", both(impl.OpMov, 8, 0, 0x0102030405060708)},
		{"49 bf 00 00 00 00 00 00 00 80", both(impl.OpMov, 8, 15, math.MinInt)},
		{"66 4a ba ff ff ff ff ff ff ff 7f", both(impl.OpMov, 8, 2, math.MaxInt)},
		{"80 e3 f0", both(impl.OpAnd, 1, 3, -16)},
		{"83 f9 80", both(impl.OpCmp, 4, 1, -128)},
		{"66 83 d2 7f", both(impl.OpAdc, 2, 2, 127)},
		{"49 83 ef ff", both(impl.OpSub, 8, 15, -1)},
		{"66 81 c6 00 80", both(impl.OpAdd, 2, 6, -32768)},
		{"81 ce 80 00 00 00", both(impl.OpOr, 4, 6, 128)},
		{"48 81 de 00 00 00 80", both(impl.OpSbb, 8, 6, math.MinInt32)},
		{"c6 c1 80", both(impl.OpMov, 1, 1, -128)},
		{"66 c7 c1 34 12", both(impl.OpMov, 2, 1, 0x1234)},
		{"41 c7 c1 ff ff ff ff", both(impl.OpMov, 4, 9, -1)},
		{"48 c7 c1 ff ff ff 7f", both(impl.OpMov, 8, 1, math.MaxInt32)},
		{"f6 c2 80", both(impl.OpTest, 1, 2, -128)},
		{"66 f7 c2 00 80", both(impl.OpTest, 2, 2, -32768)},
		{"f7 c2 00 00 00 80", both(impl.OpTest, 4, 2, math.MinInt32)},
		{"49 f7 c2 01 00 00 00", both(impl.OpTest, 8, 10, 1)},
		{"c0 c0 ff", both(impl.OpRol, 1, 0, 255)},
		{"c1 c9 80", both(impl.OpRor, 4, 1, 128)},
		{"66 c1 e2 7f", both(impl.OpShl, 2, 2, 127)},
		{"49 c1 eb 3f", both(impl.OpShr, 8, 11, 63)},
		{"d0 fb", both(impl.OpSar, 1, 3, 1)},
		{"48 d1 c5", both(impl.OpRol, 8, 5, 1)},
	})
}

func TestDecodeOneRegister(t *testing.T) {
	dst := func(op, size, reg int) impl.Instr { return impl.Instr{Op: op, Size: size, Dst: ofReg(reg)} }
	src := func(op, size, reg int) impl.Instr { return impl.Instr{Op: op, Size: size, Src: ofReg(reg)} }
	checkLiterals(t, []literal{
		{"50", src(impl.OpPush, 8, 0)},
		{"54", src(impl.OpPush, 8, 4)},
		{"41 57", src(impl.OpPush, 8, 15)},
		{"46 57", src(impl.OpPush, 8, 7)},
		{"5d", dst(impl.OpPop, 8, 5)},
		{"49 5b", dst(impl.OpPop, 8, 11)},
		{"8f c4", dst(impl.OpPop, 8, 4)},
		{"41 8f c4", dst(impl.OpPop, 8, 12)},
		{"ff f6", src(impl.OpPush, 8, 6)},
		{"ff d4", src(impl.OpCall, 8, 4)},
		{"41 ff e3", src(impl.OpJmp, 8, 11)},
		{"44 ff e3", src(impl.OpJmp, 8, 3)},
		{"f6 d1", dst(impl.OpNot, 1, 1)},
		{"66 f7 d9", dst(impl.OpNeg, 2, 1)},
		{"f7 e1", src(impl.OpMul, 4, 1)},
		{"48 f7 e9", src(impl.OpImul1, 8, 1)},
		{"41 f7 f1", src(impl.OpDiv, 4, 9)},
		{"66 41 f7 f9", src(impl.OpIdiv, 2, 9)},
		{"fe c3", dst(impl.OpInc, 1, 3)},
		{"ff cf", dst(impl.OpDec, 4, 7)},
		{"66 ff c4", dst(impl.OpInc, 2, 4)},
		{"0f 90 c1", impl.Instr{Op: impl.OpSetcc, Size: 1, Cond: 0, Dst: ofReg(1)}},
		{"41 0f 9f f9", impl.Instr{Op: impl.OpSetcc, Size: 1, Cond: 15, Dst: ofReg(9)}},
	})
}

// TestDecodeByteRegisters asks of registers 4 to 7 of size 1, which REX makes others, and of other sizes, which it does not.
func TestDecodeByteRegisters(t *testing.T) {
	two := func(op, dst, src int) impl.Instr {
		return impl.Instr{Op: op, Size: 1, Dst: ofReg(dst), Src: ofReg(src)}
	}
	from := func(op, size, from, dst, src int) impl.Instr {
		return impl.Instr{Op: op, Size: size, From: from, Dst: ofReg(dst), Src: ofReg(src)}
	}
	number := func(op, dst, n int) impl.Instr {
		return impl.Instr{Op: op, Size: 1, Dst: ofReg(dst), Src: ofNumber(n)}
	}
	checkLiterals(t, []literal{
		{"88 d8", two(impl.OpMov, 0, 3)},
		{"88 e8", two(impl.OpMov, 0, 17)},
		{"88 e7", two(impl.OpMov, 19, 16)},
		{"40 88 e7", two(impl.OpMov, 7, 4)},
		{"45 88 e7", two(impl.OpMov, 15, 12)},
		{"42 8a f5", two(impl.OpMov, 6, 5)},
		{"8a f5", two(impl.OpMov, 18, 17)},
		{"86 dc", two(impl.OpXchg, 16, 3)},
		{"b4 01", number(impl.OpMov, 16, 1)},
		{"b5 01", number(impl.OpMov, 17, 1)},
		{"b6 01", number(impl.OpMov, 18, 1)},
		{"b7 01", number(impl.OpMov, 19, 1)},
		{"40 b4 01", number(impl.OpMov, 4, 1)},
		{"48 b7 01", number(impl.OpMov, 7, 1)},
		{"41 b4 01", number(impl.OpMov, 12, 1)},
		{"80 fc ff", number(impl.OpCmp, 16, -1)},
		{"40 80 fc ff", number(impl.OpCmp, 4, -1)},
		{"c6 c5 7f", number(impl.OpMov, 17, 127)},
		{"c0 ee 03", number(impl.OpShr, 18, 3)},
		{"d0 e7", number(impl.OpShl, 19, 1)},
		{"d2 fc", two(impl.OpSar, 16, 1)},
		{"40 d2 fc", two(impl.OpSar, 4, 1)},
		{"f6 c4 01", number(impl.OpTest, 16, 1)},
		{"f6 e4", impl.Instr{Op: impl.OpMul, Size: 1, Src: ofReg(16)}},
		{"40 f6 f7", impl.Instr{Op: impl.OpDiv, Size: 1, Src: ofReg(7)}},
		{"fe cd", impl.Instr{Op: impl.OpDec, Size: 1, Dst: ofReg(17)}},
		{"0f 94 c6", impl.Instr{Op: impl.OpSetcc, Size: 1, Cond: 4, Dst: ofReg(18)}},
		{"40 0f 94 c6", impl.Instr{Op: impl.OpSetcc, Size: 1, Cond: 4, Dst: ofReg(6)}},
		{"88 20", impl.Instr{Op: impl.OpMov, Size: 1, Dst: ofMemory(0, -1, 1, 0), Src: ofReg(16)}},
		{"40 8a 26", impl.Instr{Op: impl.OpMov, Size: 1, Dst: ofReg(4), Src: ofMemory(6, -1, 1, 0)}},
		{"0f b6 e7", from(impl.OpMovzx, 4, 1, 4, 19)},
		{"40 0f b6 e7", from(impl.OpMovzx, 4, 1, 4, 7)},
		{"66 0f be e5", from(impl.OpMovsx, 2, 1, 4, 17)},
		{"0f b7 e7", from(impl.OpMovzx, 4, 2, 4, 7)},
		{"48 0f bf e7", from(impl.OpMovsx, 8, 2, 4, 7)},
		{"48 63 e7", from(impl.OpMovsx, 8, 4, 4, 7)},
		{"89 e7", impl.Instr{Op: impl.OpMov, Size: 4, Dst: ofReg(7), Src: ofReg(4)}},
		{"66 89 e7", impl.Instr{Op: impl.OpMov, Size: 2, Dst: ofReg(7), Src: ofReg(4)}},
	})
}

func TestDecodeTwoRegisters(t *testing.T) {
	two := func(op, size, dst, src int) impl.Instr {
		return impl.Instr{Op: op, Size: size, Dst: ofReg(dst), Src: ofReg(src)}
	}
	cmov := func(size, cond, dst, src int) impl.Instr {
		return impl.Instr{Op: impl.OpCmov, Size: size, Cond: cond, Dst: ofReg(dst), Src: ofReg(src)}
	}
	checkLiterals(t, []literal{
		{"01 c8", two(impl.OpAdd, 4, 0, 1)},
		{"03 c8", two(impl.OpAdd, 4, 1, 0)},
		{"66 11 d3", two(impl.OpAdc, 2, 3, 2)},
		{"48 1b d3", two(impl.OpSbb, 8, 2, 3)},
		{"44 39 c8", two(impl.OpCmp, 4, 0, 9)},
		{"41 39 c8", two(impl.OpCmp, 4, 8, 1)},
		{"42 39 c8", two(impl.OpCmp, 4, 0, 1)},
		{"4d 39 c8", two(impl.OpCmp, 8, 8, 9)},
		{"44 3b c8", two(impl.OpCmp, 4, 9, 0)},
		{"41 3b c8", two(impl.OpCmp, 4, 1, 8)},
		{"85 c1", two(impl.OpTest, 4, 1, 0)},
		{"66 48 87 c1", two(impl.OpXchg, 8, 1, 0)},
		{"48 8b c3", two(impl.OpMov, 8, 0, 3)},
		{"45 0f af f7", two(impl.OpImul, 4, 14, 15)},
		{"66 0f af f7", two(impl.OpImul, 2, 6, 7)},
		{"d3 e9", two(impl.OpShr, 4, 1, 1)},
		{"49 d3 c0", two(impl.OpRol, 8, 8, 1)},
		{"0f 40 c1", cmov(4, 0, 0, 1)},
		{"66 0f 4f c1", cmov(2, 15, 0, 1)},
		{"4c 0f 48 c1", cmov(8, 8, 8, 1)},
		{"66 48 0f b7 c1", impl.Instr{Op: impl.OpMovzx, Size: 8, From: 2, Dst: ofReg(0), Src: ofReg(1)}},
		{"66 4d 63 c1", impl.Instr{Op: impl.OpMovsx, Size: 8, From: 4, Dst: ofReg(8), Src: ofReg(9)}},
	})
}

// load is a mov of Size 4 of register 0 and memory.
func load(base, index, scale, disp int) impl.Instr {
	return impl.Instr{Op: impl.OpMov, Size: 4, Dst: ofReg(0), Src: ofMemory(base, index, scale, disp)}
}

func TestDecodeMemory(t *testing.T) {
	checkLiterals(t, []literal{
		{"8b 00", load(0, -1, 1, 0)},
		{"41 8b 07", load(15, -1, 1, 0)},
		{"42 8b 07", load(7, -1, 1, 0)},
		{"8b 43 7f", load(3, -1, 1, 127)},
		{"8b 43 80", load(3, -1, 1, -128)},
		{"8b 45 00", load(5, -1, 1, 0)},
		{"41 8b 45 ff", load(13, -1, 1, -1)},
		{"8b 83 ff ff ff 7f", load(3, -1, 1, math.MaxInt32)},
		{"41 8b 85 00 00 00 80", load(13, -1, 1, math.MinInt32)},
		{"8b 85 80 00 00 00", load(5, -1, 1, 128)},
		{"8b 05 01 00 00 00", load(impl.RegRip, -1, 1, 1)},
		{"41 8b 05 ff ff ff ff", load(impl.RegRip, -1, 1, -1)},
		{"43 8b 05 00 00 00 80", load(impl.RegRip, -1, 1, math.MinInt32)},
		{"48 8d 0d ff ff ff 7f", impl.Instr{Op: impl.OpLea, Size: 8, Dst: ofReg(1), Src: ofMemory(impl.RegRip, -1, 1, math.MaxInt32)}},
		{"66 8d 0a", impl.Instr{Op: impl.OpLea, Size: 2, Dst: ofReg(1), Src: ofMemory(2, -1, 1, 0)}},
		{"8d 4c 8a fc", impl.Instr{Op: impl.OpLea, Size: 4, Dst: ofReg(1), Src: ofMemory(2, 1, 4, -4)}},
	})
}

func TestDecodeSib(t *testing.T) {
	checkLiterals(t, []literal{
		{"8b 04 08", load(0, 1, 1, 0)},
		{"8b 04 48", load(0, 1, 2, 0)},
		{"8b 04 88", load(0, 1, 4, 0)},
		{"8b 04 c8", load(0, 1, 8, 0)},
		{"41 8b 04 c8", load(8, 1, 8, 0)},
		{"42 8b 04 c8", load(0, 9, 8, 0)},
		{"43 8b 04 ff", load(15, 15, 8, 0)},
		{"8b 04 24", load(4, -1, 1, 0)},
		{"41 8b 04 24", load(12, -1, 1, 0)},
		{"8b 04 e4", load(4, -1, 1, 0)},
		{"42 8b 04 e4", load(4, 12, 8, 0)},
		{"42 8b 04 24", load(4, 12, 1, 0)},
		{"8b 04 63", load(3, -1, 1, 0)},
		{"8b 04 2c", load(4, 5, 1, 0)},
		{"8b 04 25 00 01 00 00", load(-1, -1, 1, 256)},
		{"41 8b 04 25 ff ff ff ff", load(-1, -1, 1, -1)},
		{"41 8b 04 e5 00 00 00 80", load(-1, -1, 1, math.MinInt32)},
		{"8b 04 4d ff ff ff 7f", load(-1, 1, 2, math.MaxInt32)},
		{"42 8b 04 25 08 00 00 00", load(-1, 12, 1, 8)},
		{"43 8b 04 ad f8 ff ff ff", load(-1, 13, 4, -8)},
		{"8b 44 25 7f", load(5, -1, 1, 127)},
		{"41 8b 44 25 80", load(13, -1, 1, -128)},
		{"8b 44 4d 00", load(5, 1, 2, 0)},
		{"8b 84 25 80 00 00 00", load(5, -1, 1, 128)},
		{"43 8b 84 65 7f ff ff ff", load(13, 12, 2, -129)},
		{"8b 44 24 ff", load(4, -1, 1, -1)},
		{"42 8b 84 e4 00 00 00 80", load(4, 12, 8, math.MinInt32)},
	})
}

// TestDecodeNumbersBehindMemory asks of the place of numbers behind SIB and Disp, and of operations of one operand in memory.
func TestDecodeNumbersBehindMemory(t *testing.T) {
	both := func(op, size int, dst impl.Operand, n int) impl.Instr {
		return impl.Instr{Op: op, Size: size, Dst: dst, Src: ofNumber(n)}
	}
	checkLiterals(t, []literal{
		{"80 00 80", both(impl.OpAdd, 1, ofMemory(0, -1, 1, 0), -128)},
		{"83 7c 24 08 ff", both(impl.OpCmp, 4, ofMemory(4, -1, 1, 8), -1)},
		{"66 81 80 00 01 00 00 34 12", both(impl.OpAdd, 2, ofMemory(0, -1, 1, 256), 0x1234)},
		{"48 c7 05 01 00 00 00 02 00 00 00", both(impl.OpMov, 8, ofMemory(impl.RegRip, -1, 1, 1), 2)},
		{"66 43 c7 84 65 80 00 00 00 00 80", both(impl.OpMov, 2, ofMemory(13, 12, 2, 128), -32768)},
		{"f7 04 25 01 00 00 00 00 00 00 80", both(impl.OpTest, 4, ofMemory(-1, -1, 1, 1), math.MinInt32)},
		{"c1 64 88 fc ff", both(impl.OpShl, 4, ofMemory(0, 1, 4, -4), 255)},
		{"d1 2e", both(impl.OpShr, 4, ofMemory(6, -1, 1, 0), 1)},
		{"d2 0e", impl.Instr{Op: impl.OpRor, Size: 1, Dst: ofMemory(6, -1, 1, 0), Src: ofReg(1)}},
		{"ff 15 10 00 00 00", impl.Instr{Op: impl.OpCall, Size: 8, Src: ofMemory(impl.RegRip, -1, 1, 16)}},
		{"ff 24 c5 00 10 00 00", impl.Instr{Op: impl.OpJmp, Size: 8, Src: ofMemory(-1, 0, 8, 4096)}},
		{"41 ff 76 f8", impl.Instr{Op: impl.OpPush, Size: 8, Src: ofMemory(14, -1, 1, -8)}},
		{"8f 04 24", impl.Instr{Op: impl.OpPop, Size: 8, Dst: ofMemory(4, -1, 1, 0)}},
		{"f6 31", impl.Instr{Op: impl.OpDiv, Size: 1, Src: ofMemory(1, -1, 1, 0)}},
		{"66 f7 11", impl.Instr{Op: impl.OpNot, Size: 2, Dst: ofMemory(1, -1, 1, 0)}},
		{"0f 9d 41 01", impl.Instr{Op: impl.OpSetcc, Size: 1, Cond: 13, Dst: ofMemory(1, -1, 1, 1)}},
		{"48 0f be 09", impl.Instr{Op: impl.OpMovsx, Size: 8, From: 1, Dst: ofReg(1), Src: ofMemory(1, -1, 1, 0)}},
		{"48 63 0c 24", impl.Instr{Op: impl.OpMovsx, Size: 8, From: 4, Dst: ofReg(1), Src: ofMemory(4, -1, 1, 0)}},
		{"87 0b", impl.Instr{Op: impl.OpXchg, Size: 4, Dst: ofMemory(3, -1, 1, 0), Src: ofReg(1)}},
	})
}

// TestDecodeAnyBytes holds for texts that are drawn by lot: an instruction hangs on its own bytes alone.
func TestDecodeAnyBytes(t *testing.T) {
	lot := rand.New(rand.NewSource(4))
	for range 100000 {
		b := make([]byte, 16)
		lot.Read(b)
		text := string(b)
		x, code := impl.Decode(text, 0)
		if code != impl.OK {
			if x != (impl.Instr{}) || code != impl.ErrPrefix && code != impl.ErrOpcode && code != impl.ErrOperand {
				t.Fatalf("Decode of % x = %+v, %d", text, x, code)
			}
			continue
		}
		if x.Len < 1 || x.Len > impl.MaxLength {
			t.Fatalf("Decode of % x = %+v", text, x)
		}
		if y, code := impl.Decode("\x0f"+text[:x.Len], 1); y != x || code != impl.OK {
			t.Fatalf("Decode of % x alone = %+v, %d, want %+v", text[:x.Len], y, code, x)
		}
		if y, code := impl.Decode(text[:x.Len-1], 0); y != (impl.Instr{}) || code != impl.ErrEnd {
			t.Fatalf("Decode of % x, cut off, = %+v, %d", text[:x.Len], y, code)
		}
	}
}
