package tests

import (
	"strings"
	"testing"

	"loop.example/g00664/impl"
)

// TestNoInstructions has what Decode does not take: its codes, also where it would cross the end of its bundle, and cut off at the end of the text.
func TestNoInstructions(t *testing.T) {
	checkUntaken(t,
		refusedCase{"\x0f\x0b", 0, impl.ErrOpcode},
		refusedCase{"\x90\x0f\x0b", 1, impl.ErrOpcode},
		refusedCase{"\x66\x66\x90", 0, impl.ErrPrefix},
		refusedCase{nops(4) + "\x66\x50", 4, impl.ErrPrefix},
		refusedCase{"\xf0\x90", 0, impl.ErrPrefix},
		refusedCase{nops(2) + "\x8d\xc0", 2, impl.ErrOperand},
		refusedCase{nops(31) + "\x0f\x0b", 31, impl.ErrOpcode},
		refusedCase{nops(31) + "\x66\x66\x90", 31, impl.ErrPrefix},
		refusedCase{nops(31) + "\x8d\xc0", 31, impl.ErrOperand},
		refusedCase{nops(30) + "\xff\xff", 30, impl.ErrOpcode},
		refusedCase{nops(31) + "\x48", 31, impl.ErrEnd},
		refusedCase{nops(31) + "\x66", 31, impl.ErrEnd},
		refusedCase{nops(31) + "\x0f", 31, impl.ErrEnd},
		refusedCase{nops(28) + "\xe9\x00\x00\x00", 28, impl.ErrEnd},
		refusedCase{nops(63) + "\xb8", 63, impl.ErrEnd},
	)
}

// TestInstructionsAcrossBundles has each length of them beyond the end.
func TestInstructionsAcrossBundles(t *testing.T) {
	for _, x := range []impl.Instr{pair(impl.OpMov, 8, ofReg(0), ofReg(3)), pair(impl.OpXor, 4, ofReg(0), ofReg(0)), pair(impl.OpMov, 8, ofReg(9), ofNumber(1<<40)), pair(impl.OpMov, 8, basedOn(4, 1000), ofNumber(100000)), source(impl.OpJmp, 8, ofNumber(0)), source(impl.OpCall, 8, ofNumber(0))} {
		text := encoded(x)
		for over := 1; over < len(text); over++ {
			for _, end := range []int{32, 64, 96} {
				ahead := end - len(text) + over
				checkUntaken(t, refusedCase{nops(ahead) + text, ahead, impl.ErrBundle})
			}
		}
	}
	// What it would break beside that does not count.
	for _, text := range []string{"\xcd\x80", "\x41\x5f", "\x89\xc4", "\xff\xe0", "\x48\x89\x18", "\x41\xff\x27", "\x49\x8b\x87\x00\x08\x00\x00", "\x48\x8b\x05\x20\x4e\x00\x00", "\xe8\x7f\x7f\x00\x00", "\xeb\x7f", "\x0f\x05"} {
		checkUntaken(t, refusedCase{nops(31) + text, 31, impl.ErrBundle})
	}
}

func TestUnsafe(t *testing.T) {
	for _, x := range []impl.Instr{{Op: impl.OpRet}, {Op: impl.OpStos, Size: 1}, {Op: impl.OpMovs, Size: 1}, {Op: impl.OpSyscall}, source(impl.OpInt, 0, ofNumber(128)), source(impl.OpInt, 0, ofNumber(3))} {
		text := encoded(x)
		for _, ahead := range []int{0, 5, 32 - len(text), 32, 70} {
			checkUntaken(t, refusedCase{nops(ahead) + text, ahead, impl.ErrUnsafe}, refusedCase{nops(ahead) + text + "\x0f\x0b", ahead, impl.ErrUnsafe})
		}
	}
}

// TestBaseRegister has what writes register 15, whole or in part, alone or beside another; whatever else is wrong with it comes behind.
func TestBaseRegister(t *testing.T) {
	base := ofReg(15)
	for _, x := range []impl.Instr{pair(impl.OpMov, 8, base, ofReg(0)), pair(impl.OpMov, 4, base, ofReg(0)), pair(impl.OpMov, 2, base, ofReg(0)), pair(impl.OpMov, 1, base, ofReg(0)), pair(impl.OpMov, 8, base, base), pair(impl.OpMov, 8, base, ofReg(4)), pair(impl.OpAdd, 8, base, base), pair(impl.OpAnd, 4, base, ofNumber(4095)),
		pair(impl.OpXchg, 8, ofReg(0), base), pair(impl.OpXchg, 8, base, ofReg(0)), pair(impl.OpXchg, 8, basedOn(4, 0), base), single(impl.OpInc, 8, base), pair(impl.OpShl, 8, base, ofReg(1)), pair(impl.OpLea, 8, base, at3), pair(impl.OpImul, 8, base, ofReg(0)), extend(impl.OpMovzx, 4, 1, base, ofReg(0)),
		withCond("e", pair(impl.OpCmov, 8, base, ofReg(0))), withCond("e", single(impl.OpSetcc, 1, base)), single(impl.OpPop, 8, base),
		// These would break other rules, too.
		pair(impl.OpXchg, 8, ofReg(4), base), pair(impl.OpXchg, 8, base, ofReg(5)), pair(impl.OpMov, 8, base, at3), pair(impl.OpXchg, 8, at3, base), pair(impl.OpMov, 8, base, basedOn(15, 5000)), pair(impl.OpMov, 8, base, ofMemory(impl.RegRip, -1, 1, 90000))} {
		checkUntaken(t, refusedCase{encoded(x), 0, impl.ErrBase}, refusedCase{nops(35) + encoded(x) + "\xc3", 35, impl.ErrBase})
	}
}

// TestStackRegisters has what may not write registers 4 and 5 by itself.
func TestStackRegisters(t *testing.T) {
	for _, reg := range []int{4, 5} {
		r, other := ofReg(reg), ofReg(9-reg)
		list := []impl.Instr{pair(impl.OpMov, 8, r, ofReg(0)), pair(impl.OpMov, 8, r, r), pair(impl.OpMov, 4, r, other), pair(impl.OpMov, 2, r, other), pair(impl.OpMov, 8, r, ofReg(15)), pair(impl.OpMov, 8, r, ofNumber(5)), pair(impl.OpMov, 8, r, basedOn(9-reg, 0)), pair(impl.OpMov, 1, r, ofReg(0)), pair(impl.OpMov, 2, r, ofReg(0)),
			pair(impl.OpAdd, 8, r, ofNumber(8)), pair(impl.OpSub, 8, r, ofNumber(8)), pair(impl.OpAnd, 8, r, ofNumber(4095)), pair(impl.OpAnd, 4, r, ofNumber(4095)), pair(impl.OpAnd, 4, r, ofNumber(4064)), pair(impl.OpAdd, 8, r, ofReg(15)), pair(impl.OpXchg, 8, r, other), pair(impl.OpXchg, 4, r, other), pair(impl.OpXchg, 8, r, ofReg(0)), pair(impl.OpXchg, 8, ofReg(0), r),
			pair(impl.OpXchg, 8, basedOn(15, 0), r), single(impl.OpInc, 8, r), single(impl.OpDec, 4, r), pair(impl.OpLea, 8, r, basedOn(reg, 8)), pair(impl.OpShl, 8, r, ofNumber(0)), pair(impl.OpImul, 8, r, ofReg(0)), extend(impl.OpMovsx, 8, 4, r, ofReg(0)), withCond("e", pair(impl.OpCmov, 8, r, other)), withCond("e", single(impl.OpSetcc, 1, r)), single(impl.OpPop, 8, r)}
		list = append(list, settersOf(reg)...)
		// These would break rules of memory, too.
		list = append(list, pair(impl.OpMov, 8, r, at3), pair(impl.OpMov, 4, r, at3), pair(impl.OpXchg, 8, at3, r), pair(impl.OpMov, 8, r, basedOn(15, 5000)), pair(impl.OpMov, 8, r, ofMemory(impl.RegRip, -1, 1, 90000)))
		for _, x := range list {
			checkUntaken(t, refusedCase{encoded(x), 0, impl.ErrStack}, refusedCase{nops(35) + encoded(x) + "\xc3", 35, impl.ErrStack})
		}
	}
}

// stackPieces are what sets register 4 or 5: an instruction of Size 4, the mask, and the addition of the base.
type stackPieces struct {
	t               *testing.T
	reg             int
	set, mask, base string
}

func eachStackPieces(t *testing.T, use func(p stackPieces)) {
	for _, reg := range []int{4, 5} {
		use(stackPieces{t, reg, encoded(pair(impl.OpSub, 4, ofReg(reg), ofNumber(8))), masking(reg, 4095), basing(reg)})
	}
}

// wrong looks that pieces are not taken, from a bundle's beginning on, and behind another instruction.
func (p stackPieces) wrong(where int, texts ...string) {
	p.t.Helper()
	checkUntaken(p.t, refusedCase{strings.Join(texts, ""), where, impl.ErrStack}, refusedCase{nops(33) + strings.Join(texts, ""), 33 + where, impl.ErrStack})
}

// TestMissingPieces has one of them missing, elsewhere, or there twice.
func TestMissingPieces(t *testing.T) {
	eachStackPieces(t, func(p stackPieces) {
		set, mask, base := p.set, p.mask, p.base
		p.wrong(0, set)
		p.wrong(0, mask)
		p.wrong(0, base)
		p.wrong(0, set, mask)
		p.wrong(0, set, base)
		p.wrong(0, base, mask)
		p.wrong(0, base, mask, base)
		p.wrong(0, set, nop, mask, base)
		p.wrong(0, set, mask, nop, base)
		p.wrong(0, mask, nop, base)
		p.wrong(0, set, base, mask)
		p.wrong(0, set, set, mask, base)
		p.wrong(9, mask, base, base)
		p.wrong(9, mask, base, set)
		p.wrong(9, mask, base, mask)
		p.wrong(12, set, mask, base, set, mask)
		p.wrong(12, set, mask, base, base)
		// The first of two masks is such a mask itself, without an addition directly behind.
		p.wrong(0, mask, mask, base)
		// What is no instruction is no piece, and the first one counts.
		p.wrong(0, set, mask, "\x0f\x0b")
		p.wrong(0, set, "\x0f\x0b")
		p.wrong(0, mask, "\x0f\x0b")
		p.wrong(0, mask, "\xc3")
	})
}

// TestOtherMasksAndBases has other instructions instead of the mask and the addition.
func TestOtherMasksAndBases(t *testing.T) {
	eachStackPieces(t, func(p stackPieces) {
		dst := ofReg(p.reg)
		for _, x := range []impl.Instr{pair(impl.OpAnd, 4, dst, ofNumber(4064)), pair(impl.OpAnd, 4, dst, ofNumber(4094)), pair(impl.OpAnd, 4, dst, ofNumber(-1)), pair(impl.OpAnd, 8, dst, ofNumber(4095)), pair(impl.OpAnd, 2, dst, ofNumber(4095)), pair(impl.OpAnd, 1, dst, ofNumber(15)), pair(impl.OpAnd, 4, dst, ofReg(0)), pair(impl.OpOr, 4, dst, ofNumber(4095))} {
			p.wrong(0, encoded(x), p.base)
			p.wrong(0, p.set, encoded(x), p.base)
		}
		for _, x := range []impl.Instr{pair(impl.OpAdd, 4, dst, ofReg(15)), pair(impl.OpAdd, 8, dst, ofReg(14)), pair(impl.OpAdd, 8, dst, dst), pair(impl.OpMov, 8, dst, ofReg(15)), pair(impl.OpOr, 8, dst, ofReg(15)), pair(impl.OpAdd, 8, dst, basedOn(15, 0)), pair(impl.OpAdd, 8, dst, ofNumber(16384))} {
			p.wrong(0, p.mask, encoded(x))
			p.wrong(0, p.set, p.mask, encoded(x))
		}
	})
}

// TestPiecesOfOthers has pieces of the other register, and of one that is none of the two.
func TestPiecesOfOthers(t *testing.T) {
	eachStackPieces(t, func(p stackPieces) {
		otherMask, otherBase := masking(9-p.reg, 4095), basing(9-p.reg)
		p.wrong(0, p.mask, otherBase)
		p.wrong(0, otherMask, p.base)
		p.wrong(0, p.set, otherMask, otherBase)
		p.wrong(0, p.set, p.mask, otherBase)
		p.wrong(0, p.set, otherMask, p.base)
		p.wrong(0, p.mask, basing(0))
		p.wrong(6, masking(0, 4095), p.base)
		p.wrong(0, p.set, masking(0, 4095), basing(0))
		p.wrong(0, p.set, p.mask, basing(0))
	})
}

// TestOtherSetters has, ahead of mask and addition, what is of another size, has another Dst, or writes both registers.
func TestOtherSetters(t *testing.T) {
	eachStackPieces(t, func(p stackPieces) {
		dst, other := ofReg(p.reg), ofReg(9-p.reg)
		for _, x := range []impl.Instr{pair(impl.OpSub, 8, dst, ofNumber(8)), pair(impl.OpMov, 8, dst, ofReg(0)), pair(impl.OpMov, 2, dst, ofReg(0)), pair(impl.OpMov, 1, dst, ofReg(0)), pair(impl.OpXchg, 4, ofReg(0), dst), pair(impl.OpXchg, 4, basedOn(15, 0), dst), pair(impl.OpXchg, 4, dst, other), pair(impl.OpXchg, 4, other, dst), single(impl.OpPop, 8, dst), extend(impl.OpMovsx, 8, 4, dst, ofReg(0))} {
			p.wrong(0, encoded(x), p.mask, p.base)
		}
	})
}

// TestPiecesAcrossBundles: neighbours stand in one bundle alone.
func TestPiecesAcrossBundles(t *testing.T) {
	for _, reg := range []int{4, 5} {
		set, mask, base := encoded(pair(impl.OpSub, 4, ofReg(reg), ofNumber(8))), masking(reg, 4095), basing(reg)
		checkUntaken(t,
			refusedCase{lastly(mask) + base, 26, impl.ErrStack},
			refusedCase{lastly(set+mask) + base, 23, impl.ErrStack},
			refusedCase{lastly(set) + mask + base, 29, impl.ErrStack},
			refusedCase{nops(24) + mask + base, 24, impl.ErrStack},
			refusedCase{nops(21) + set + mask + base, 21, impl.ErrStack},
			refusedCase{nops(26) + set + mask + base, 26, impl.ErrStack},
			refusedCase{nops(32) + lastly(mask) + base, 58, impl.ErrStack})
	}
}

// TestMemoryWithoutMask has memory at other registers, and none.
func TestMemoryWithoutMask(t *testing.T) {
	for _, base := range []int{-1, 0, 1, 2, 3, 6, 7, 8, 9, 10, 11, 12, 13, 14} {
		for _, disp := range []int{0, 8, -2049, 5000} {
			for _, x := range usersOf(basedOn(base, disp)) {
				checkUntaken(t, refusedCase{nops(2) + encoded(x), 2, impl.ErrMask})
			}
		}
		// A mask and the base make no register one of the three.
		if base != -1 {
			checkUntaken(t, refusedCase{masking(base, 4095) + basing(base) + reading(basedOn(base, 0)), len(masking(base, 4095)) + 3, impl.ErrMask}, refusedCase{masking(base, 4095) + reading(basedOn(base, 0)), len(masking(base, 4095)), impl.ErrMask})
		}
	}
	// Such memory as an operand of a jump or call comes ahead of that.
	for _, op := range []int{impl.OpJmp, impl.OpCall} {
		checkUntaken(t, refusedCase{through(op, at3), 0, impl.ErrMask}, refusedCase{through(op, ofMemory(-1, -1, 1, 16896)), 0, impl.ErrMask}, refusedCase{through(op, ofMemory(15, 0, 1, 0)), 0, impl.ErrMask})
	}
}

// TestIndexWithoutMask has an Index without its mask, with a mask of another number or register, of the same one only in part, and elsewhere.
func TestIndexWithoutMask(t *testing.T) {
	use, mask := reading(indexedBy(1, 0)), masking(1, 4095)
	and := func(size, reg, n int) string { return encoded(pair(impl.OpAnd, size, ofReg(reg), ofNumber(n))) }
	for _, ahead := range []string{"", nop, mask + nop, mask + "\x89\xc1", mask + masking(1, 4064), mask + masking(2, 4095), mask + basing(1), masking(1, 4064), masking(1, 4094), masking(1, 4096), masking(1, -1), masking(1, 127), masking(0, 4095), masking(9, 4095), masking(2, 4095),
		and(8, 1, 4095), and(2, 1, 4095), and(1, 1, 127), and(1, 17, 15), encoded(pair(impl.OpAnd, 4, ofReg(1), ofReg(2))), encoded(pair(impl.OpOr, 4, ofReg(1), ofNumber(4095))), encoded(pair(impl.OpTest, 4, ofReg(1), ofNumber(4095))), encoded(pair(impl.OpAnd, 4, basedOn(15, 0), ofNumber(4095))), encoded(pair(impl.OpMov, 4, ofReg(1), ofNumber(4095))),
		nops(32), lastly(mask), nops(32) + lastly(mask), nops(40) + mask + nop} {
		for _, x := range []string{use, encoded(pair(impl.OpMov, 1, indexedBy(1, 0), ofReg(2))), encoded(source(impl.OpPush, 8, indexedBy(1, 8))), encoded(single(impl.OpPop, 8, indexedBy(1, 8))), reading(indexedBy(1, 5000))} {
			checkUntaken(t, refusedCase{ahead + x, len(ahead), impl.ErrMask})
		}
	}
	// One mask is for one instruction; and a mask behind is none.
	checkUntaken(t, refusedCase{mask + use + use, 10, impl.ErrMask}, refusedCase{use + mask, 0, impl.ErrMask})
}

// TestIndexOfOtherKinds has a mask directly ahead, and another Base, Scale, or Index than may be.
func TestIndexOfOtherKinds(t *testing.T) {
	mask := masking(1, 4095)
	for _, place := range []impl.Operand{ofMemory(15, 1, 2, 0), ofMemory(15, 1, 4, 0), ofMemory(15, 1, 8, 0), ofMemory(4, 1, 1, 0), ofMemory(5, 1, 1, 0), ofMemory(-1, 1, 1, 0), ofMemory(0, 1, 1, 0), ofMemory(1, 1, 1, 0), ofMemory(-1, 1, 8, 16384), ofMemory(1, 15, 1, 0), ofMemory(15, 15, 1, 0), ofMemory(15, 5, 1, 0), ofMemory(15, 2, 1, 0), ofMemory(4, 5, 1, 0), ofMemory(15, 1, 2, 5000), ofMemory(5, 1, 1, -5000)} {
		for _, x := range usersOf(place) {
			checkUntaken(t, refusedCase{mask + encoded(x), 6, impl.ErrMask})
		}
	}
	// The masks of registers 5 and 15 are wrong themselves, and so is what stands ahead.
	checkUntaken(t,
		refusedCase{masking(5, 4095) + reading(indexedBy(5, 0)), 0, impl.ErrStack},
		refusedCase{masking(15, 4095) + reading(indexedBy(15, 0)), 0, impl.ErrBase},
		refusedCase{masking(5, 4095) + basing(5) + reading(indexedBy(5, 0)), 9, impl.ErrMask},
		refusedCase{masking(4, 4095) + reading(ofMemory(15, -1, 1, 0)), 0, impl.ErrStack})
}

// TestDisplacements has those beyond the last ones that may be, with an Index, too.
func TestDisplacements(t *testing.T) {
	for _, disp := range []int{2048, 2049, 4096, 1<<31 - 1, -2049, -2050, -4096, -1 << 31} {
		for _, base := range []int{4, 5, 15} {
			for _, x := range usersOf(basedOn(base, disp)) {
				checkUntaken(t, refusedCase{nop + encoded(x), 1, impl.ErrDisp})
			}
			checkUntaken(t, refusedCase{through(impl.OpJmp, basedOn(base, disp)), 0, impl.ErrDisp}, refusedCase{through(impl.OpCall, basedOn(base, disp)), 0, impl.ErrDisp})
		}
		for _, x := range usersOf(indexedBy(9, disp)) {
			checkUntaken(t, refusedCase{masking(9, 4095) + encoded(x), 7, impl.ErrDisp})
		}
	}
}

// TestRipOutside has memory beside the instruction that is reached just outside, from wherever it stands.
func TestRipOutside(t *testing.T) {
	for i, x := range usersOf(ofMemory(impl.RegRip, -1, 1, 0)) {
		length := len(encoded(x))
		for _, ahead := range []int{0, i % 20, 32 - length, 33} {
			for _, reached := range []int{14335, 14334, 22528, 22529, 0, -1, 4096, 32768, 1 << 30, -1 << 30} {
				place := ofMemory(impl.RegRip, -1, 1, reached-codeAt-ahead-length)
				if x.Src.Kind == impl.KindMem {
					x.Src = place
				} else {
					x.Dst = place
				}
				checkUntaken(t, refusedCase{nops(ahead) + encoded(x), ahead, impl.ErrRip})
			}
		}
	}
	checkUntaken(t, refusedCase{through(impl.OpJmp, ofMemory(impl.RegRip, -1, 1, 20000)), 0, impl.ErrRip}, refusedCase{through(impl.OpCall, ofMemory(impl.RegRip, -1, 1, -20000)), 0, impl.ErrRip})
}

// TestIndirect has jumps and calls through what may not be gone through, which of a call comes ahead of its place in the bundle.
func TestIndirect(t *testing.T) {
	for _, op := range []int{impl.OpJmp, impl.OpCall} {
		for _, place := range []impl.Operand{basedOn(15, 0), basedOn(4, 8), basedOn(5, 0), basedOn(15, 2047), ofMemory(impl.RegRip, -1, 1, 0)} {
			for reg := range 4 {
				checkUntaken(t, refusedCase{masking(reg, 4064) + basing(reg) + through(op, place), 9, impl.ErrIndirect})
			}
			checkUntaken(t, refusedCase{through(op, place), 0, impl.ErrIndirect}, refusedCase{lastly(through(op, place)), 32 - len(through(op, place)), impl.ErrIndirect})
		}
		checkUntaken(t, refusedCase{masking(1, 4095) + through(op, indexedBy(1, 0)), 6, impl.ErrIndirect})
		for reg := range 16 {
			checkUntaken(t, refusedCase{nop + through(op, ofReg(reg)), 1, impl.ErrIndirect})
		}
		mask, base, leap := masking(1, 4064), basing(1), through(op, ofReg(1))
		for _, ahead := range []string{"", mask, base, mask + nop + base, mask + base + nop, base + mask, base + mask + base + nop, masking(1, 4095) + base, masking(1, 4063) + base, masking(1, -32) + base, masking(2, 4064) + base, mask + basing(2), masking(2, 4064) + basing(2), mask + base + base, mask + masking(1, 4095) + base,
			encoded(pair(impl.OpAnd, 8, ofReg(1), ofNumber(4064))) + base, encoded(pair(impl.OpAnd, 2, ofReg(1), ofNumber(4064))) + base, encoded(pair(impl.OpAnd, 1, ofReg(1), ofNumber(-32))) + base, encoded(pair(impl.OpAnd, 1, ofReg(17), ofNumber(15))) + base,
			mask + encoded(pair(impl.OpAdd, 4, ofReg(1), ofReg(15))), mask + encoded(pair(impl.OpAdd, 8, ofReg(1), ofReg(14))), mask + encoded(pair(impl.OpOr, 8, ofReg(1), ofReg(15)))} {
			checkUntaken(t, refusedCase{ahead + leap, len(ahead), impl.ErrIndirect}, refusedCase{nops(33) + ahead + leap, 33 + len(ahead), impl.ErrIndirect})
		}
		// Neighbours stand in one bundle alone; and one mask is for one jump.
		checkUntaken(t, refusedCase{lastly(mask+base) + leap, 32, impl.ErrIndirect}, refusedCase{lastly(mask) + base + leap, 35, impl.ErrIndirect}, refusedCase{nops(32) + lastly(mask+base) + leap, 64, impl.ErrIndirect})
		// The pieces of registers 4, 5 and 15 are wrong themselves, but of 4 and 5 with the other mask.
		checkUntaken(t, refusedCase{masking(4, 4064) + basing(4) + through(op, ofReg(4)), 0, impl.ErrStack}, refusedCase{masking(5, 4064) + basing(5) + through(op, ofReg(5)), 0, impl.ErrStack}, refusedCase{masking(15, 4064) + basing(15) + through(op, ofReg(15)), 0, impl.ErrBase},
			refusedCase{masking(4, 4095) + basing(4) + through(op, ofReg(4)), 9, impl.ErrIndirect}, refusedCase{masking(5, 4095) + basing(5) + through(op, ofReg(5)), 9, impl.ErrIndirect})
	}
	checkUntaken(t, refusedCase{masking(1, 4064) + basing(1) + through(impl.OpJmp, ofReg(1)) + through(impl.OpJmp, ofReg(1)), 11, impl.ErrIndirect})
}

// TestCallsWithinBundles has calls that do not end where their bundle ends, which comes ahead of where they go.
func TestCallsWithinBundles(t *testing.T) {
	for _, ahead := range []int{0, 1, 25, 26, 32, 58} {
		checkUntaken(t, refusedCase{nops(ahead) + going(impl.OpCall, ahead, 0), ahead, impl.ErrCall}, refusedCase{nops(ahead) + going(impl.OpCall, ahead, 16640-codeAt), ahead, impl.ErrCall}, refusedCase{nops(ahead) + going(impl.OpCall, ahead, 7777), ahead, impl.ErrCall})
	}
	for _, ahead := range []int{0, 20, 32} {
		checkUntaken(t, refusedCase{nops(ahead) + masking(1, 4064) + basing(1) + through(impl.OpCall, ofReg(1)), ahead + 9, impl.ErrCall})
	}
}

// TestLastInstruction: behind all others, unless it is a jmp or hlt, and ahead of where jumps go.
func TestLastInstruction(t *testing.T) {
	for _, x := range []impl.Instr{{Op: impl.OpNop}, pair(impl.OpMov, 8, ofReg(0), ofReg(3)), source(impl.OpJcc, 0, ofNumber(-6)), source(impl.OpCall, 8, ofNumber(-5)), source(impl.OpPush, 8, ofReg(0)), pair(impl.OpMov, 8, ofReg(3), basedOn(4, 0)), pair(impl.OpMov, 8, ofReg(9), ofNumber(1<<40))} {
		text := encoded(x)
		checkUntaken(t, refusedCase{lastly(text), 32 - len(text), impl.ErrText}, refusedCase{lastly(hlt + text), 32 - len(text), impl.ErrText}, refusedCase{nops(40) + nops(24-len(text)) + text, 64 - len(text), impl.ErrText})
	}
	checkUntaken(t,
		refusedCase{nops(32), 31, impl.ErrText},
		refusedCase{nops(64), 63, impl.ErrText},
		refusedCase{lastly(masking(4, 4095) + basing(4)), 29, impl.ErrText},
		refusedCase{lastly(masking(1, 4095) + reading(indexedBy(1, 0))), 28, impl.ErrText},
		refusedCase{lastly(masking(1, 4064) + basing(1) + through(impl.OpCall, ofReg(1))), 30, impl.ErrText},
		refusedCase{"\xeb\x7f" + nops(30), 31, impl.ErrText},
		refusedCase{nops(27) + going(impl.OpCall, 27, 7777), 27, impl.ErrText},
	)
}

// TestGoals has those to which no jump may go: inner ones of each kind, what is no start, and what is beside the text.
func TestGoals(t *testing.T) {
	read, leap := masking(1, 4095)+reading(indexedBy(1, 0)), masking(1, 4064)+basing(1)+through(impl.OpJmp, ofReg(1))
	stack := masking(4, 4095) + basing(4)
	frame := "\x83\xed\x08" + masking(5, 4095) + basing(5)
	for _, op := range []int{impl.OpJmp, impl.OpJcc} {
		for _, v := range []struct {
			ahead string
			goals []int
		}{
			{read, []int{6, 1, 5, 7, 9}}, {leap, []int{6, 9, 1, 7, 8, 10}}, {stack, []int{6, 3, 8}}, {frame, []int{9, 1, 2, 4, 10, 11}}, {nops(3), []int{4, 5, 7, -33, -65, 32, 33, 64, 100000, -100000, 1<<31 - 20, -1<<31 + 20}}, {nops(40), []int{64, 96, 41, 43, -33}},
		} {
			for _, goal := range v.goals {
				checkUntaken(t, refusedCase{v.ahead + going(op, len(v.ahead), goal), len(v.ahead), impl.ErrTarget})
			}
		}
	}
	for _, goal := range []int{28, 31, 32 + 6, 32 + 7, -33, 64, 7777} {
		checkUntaken(t, refusedCase{lastly(going(impl.OpCall, 27, goal)) + read, 27, impl.ErrTarget})
	}
	call := lastly(masking(1, 4064) + basing(1) + through(impl.OpCall, ofReg(1)))
	checkUntaken(t, refusedCase{call + going(impl.OpJmp, 32, 27), 32, impl.ErrTarget}, refusedCase{call + going(impl.OpJmp, 32, 30), 32, impl.ErrTarget}, refusedCase{"\xeb\x01" + nop + "\xeb\xfc", 3, impl.ErrTarget}, refusedCase{"\xeb\xff", 0, impl.ErrTarget})
	// Ahead of the text there is nothing, though another text may stand there.
	for goal := -32; goal < 0; goal++ {
		checkValidate(t, filled(nops(3)+going(impl.OpJmp, 3, goal)), codeAt, impl.Report{At: 3}, impl.ErrTarget)
		checkValidate(t, nops(59)+going(impl.OpCall, 59, goal)+strings.Repeat(hlt, 32), codeAt, impl.Report{At: 59}, impl.ErrTarget)
	}
}

// TestGoalsBesideTrampolines: a jump may go just to the beginnings of eight.
func TestGoalsBesideTrampolines(t *testing.T) {
	for k := range 8 {
		for _, by := range []int{-31, -16, -1, 1, 2, 31} {
			goal := 16640 + 32*k + by - codeAt
			checkUntaken(t, refusedCase{going(impl.OpJmp, 0, goal), 0, impl.ErrTarget}, refusedCase{nops(5) + going(impl.OpJcc, 5, goal), 5, impl.ErrTarget}, refusedCase{nops(27) + going(impl.OpCall, 27, goal) + hlt, 27, impl.ErrTarget})
		}
	}
	for _, reached := range []int{16384, 16608, 16639, 16896 - 1, 16384 + 4096, 4096, 32768, 0, 16640 - 256, 12288} {
		checkUntaken(t, refusedCase{going(impl.OpJmp, 0, reached-codeAt), 0, impl.ErrTarget})
	}
	// Just behind the last one there is a place for code, which has none here.
	checkValidate(t, filled(going(impl.OpJmp, 0, -32)), codeAt, impl.Report{}, impl.ErrTarget)
	checkValidate(t, filled(going(impl.OpJmp, 0, 16896-17024)), 17024, impl.Report{}, impl.ErrTarget)
}

// TestFirstRuleCounts: of two instructions that break a rule each the first one counts, whichever these are; goals count behind all.
func TestFirstRuleCounts(t *testing.T) {
	wrong := []refusedCase{{"\xc3", 0, impl.ErrUnsafe}, {"\x0f\x0b", 0, impl.ErrOpcode}, {"\x66\x50", 0, impl.ErrPrefix}, {"\x8d\xc0", 0, impl.ErrOperand}, {"\x49\x89\xc7", 0, impl.ErrBase}, {"\x89\xc4", 0, impl.ErrStack}, {"\x48\x89\x18", 0, impl.ErrMask}, {"\x49\x8b\x87\x00\x08\x00\x00", 0, impl.ErrDisp}, {"\x48\x8b\x05\x20\x4e\x00\x00", 0, impl.ErrRip}, {"\xff\xe0", 0, impl.ErrIndirect}, {"\xe8\x00\x00\x00\x00", 0, impl.ErrCall}}
	for _, a := range wrong {
		for _, b := range wrong {
			for _, gap := range []int{0, 3, 32} {
				checkUntaken(t, refusedCase{nop + a.text + nops(gap) + b.text, 1, a.code})
			}
		}
		for _, goes := range []string{"\xeb\x7f", "\xeb\xfd", "\x74\xff", "\x0f\x84\x00\x00\x00\x70"} {
			checkUntaken(t, refusedCase{goes + a.text, len(goes), a.code}, refusedCase{goes + nops(32-len(goes)) + a.text, 32, a.code}, refusedCase{a.text + goes, 0, a.code})
		}
		// The last instruction would be wrong, too; and one that crosses the end of its bundle counts ahead.
		checkUntaken(t, refusedCase{nops(20) + a.text + nops(12-len(a.text)), 20, a.code}, refusedCase{nops(31) + "\x48\x89\xd8" + a.text, 31, impl.ErrBundle})
	}
	// Of two goals that are wrong the first one counts, though it be the goal of a call that ends its bundle.
	checkUntaken(t, refusedCase{"\xeb\x00\x74\x7e\xeb\x7f", 2, impl.ErrTarget}, refusedCase{"\xeb\x7f\x74\x7e", 0, impl.ErrTarget}, refusedCase{nops(27) + "\xe8\xff\x00\x00\x00" + "\xeb\x7f", 27, impl.ErrTarget}, refusedCase{nops(33) + "\x74\xfe\x75\xfd\xeb\x7f", 35, impl.ErrTarget})
}
