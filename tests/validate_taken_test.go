package tests

import (
	"strings"
	"testing"

	"loop.example/g00664/impl"
)

// TestTakenStarts tells starts by their numbers; elsewhere they are told by the lengths of pieces.
func TestTakenStarts(t *testing.T) {
	checkValidate(t, strings.Repeat(hlt, 32), codeAt, impl.Report{Starts: []int{0, 1, 2, 3, 4, 5, 6, 7, 8, 9, 10, 11, 12, 13, 14, 15, 16, 17, 18, 19, 20, 21, 22, 23, 24, 25, 26, 27, 28, 29, 30, 31}}, impl.OK)
	// Three mov of ten bytes and two hlts; a mov of seven bytes, jumps of six and five, one of ten, and four hlts.
	ten, seven := "\x48\xb8\x01\x02\x03\x04\x05\x06\x07\x08", "\x48\xc7\xc3\xff\xff\xff\xff"
	text := strings.Repeat(ten, 3) + hlt + hlt + seven + "\x0f\x84\xd3\xff\xff\xff" + "\xe9\xd8\xff\xff\xff" + ten + strings.Repeat(hlt, 4)
	want := impl.Report{Starts: []int{0, 10, 20, 30, 31, 32, 39, 45, 50, 60, 61, 62, 63}, Goals: []int{0, 10}}
	checkValidate(t, text, codeAt, want, impl.OK)
	checkTiled(t, text, codeAt)
	// A masked read, a jump through a register, and two jumps back to where these begin.
	text = "\x41\x81\xe1\xff\x0f\x00\x00" + "\x4b\x8b\x5c\x0f\x05" + "\x81\xe2\xe0\x0f\x00\x00" + "\x4c\x01\xfa" + "\xff\xe2" + "\xeb\xf3" + "\xeb\xe5" + strings.Repeat(hlt, 5)
	want = impl.Report{Starts: []int{0, 7, 12, 18, 21, 23, 25, 27, 28, 29, 30, 31}, Inner: []int{7, 18, 21}, Goals: []int{12, 0}}
	checkValidate(t, text, codeAt, want, impl.OK)
	checkTiled(t, text, codeAt)
}

func TestTakenMemory(t *testing.T) {
	var list []takenCase
	for _, base := range []int{4, 5, 15} {
		for _, disp := range []int{0, 1, -1, 8, 127, 128, -128, -129, 2046, 2047, -2047, -2048} {
			for _, x := range usersOf(basedOn(base, disp)) {
				list = append(list, takenCase{pieces: pieces(encoded(x))}, takenCase{pieces: pieces(nops(3), encoded(x), encoded(x))})
			}
		}
	}
	checkTaken(t, list...)
}

// TestTakenRip has memory beside the instruction at the ends of what may be reached, from wherever the instruction stands.
func TestTakenRip(t *testing.T) {
	var list []takenCase
	for _, x := range usersOf(ofMemory(impl.RegRip, -1, 1, 0)) {
		for _, ahead := range []int{0, 1, 32 - len(encoded(x)), 33} {
			next := codeAt + ahead + len(encoded(x))
			for _, reached := range []int{14336, 14337, 16384, 16895, codeAt, codeAt + 31, 20479, 20480, 22526, 22527} {
				place := ofMemory(impl.RegRip, -1, 1, reached-next)
				if x.Src.Kind == impl.KindMem {
					x.Src = place
				} else {
					x.Dst = place
				}
				list = append(list, takenCase{pieces: pieces(nops(ahead), encoded(x), hlt)})
			}
		}
	}
	checkTaken(t, list...)
}

// TestTakenIndex has each register that may be an Index, masked directly ahead.
func TestTakenIndex(t *testing.T) {
	var list []takenCase
	for _, index := range []int{0, 1, 2, 3, 6, 7, 8, 9, 10, 11, 12, 13, 14} {
		mask := masking(index, 4095)
		for _, disp := range []int{0, 1, -128, 2047, -2048} {
			for _, x := range usersOf(indexedBy(index, disp)) {
				list = append(list, takenCase{pieces: pieces(mask, encoded(x)), inner: []int{len(mask)}})
			}
		}
		use := reading(indexedBy(index, 0))
		list = append(list,
			takenCase{pieces: pieces(nops(32-len(mask)-len(use)), mask, use, hlt), inner: []int{32 - len(use)}},
			takenCase{pieces: pieces(mask, use, mask, use), inner: []int{len(mask), 2*len(mask) + len(use)}},
			takenCase{pieces: pieces(nops(32), masking(index, 4064), mask, use), inner: []int{32 + 2*len(mask)}})
	}
	// The short form of an and of register 0 is a mask, too.
	list = append(list, takenCase{pieces: pieces("\x25\xff\x0f\x00\x00", reading(indexedBy(0, 0))), inner: []int{5}})
	checkTaken(t, list...)
}

// TestTakenAddresses: lea but reckons, so that it may have any memory, and is not inner.
func TestTakenAddresses(t *testing.T) {
	var list []takenCase
	for _, place := range []impl.Operand{at3, ofMemory(3, 1, 8, 100000), ofMemory(-1, -1, 1, -5), ofMemory(impl.RegRip, -1, 1, 1<<31-1), indexedBy(1, 0), ofMemory(15, 5, 1, 5000), ofMemory(4, 15, 2, 0), basedOn(15, 2048)} {
		list = append(list, takenCase{pieces: pieces(encoded(pair(impl.OpLea, 8, ofReg(1), place)))}, takenCase{pieces: pieces(masking(1, 4095), encoded(pair(impl.OpLea, 4, ofReg(1), place)))})
	}
	checkTaken(t, list...)
}

// TestTakenStack has what leaves registers 4 and 5 right by itself, and what but reads them.
func TestTakenStack(t *testing.T) {
	var list []takenCase
	for reg := range 16 {
		list = append(list, takenCase{pieces: pieces(encoded(source(impl.OpPush, 8, ofReg(reg))))}, takenCase{pieces: pieces(encoded(pair(impl.OpCmp, 8, ofReg(4), ofReg(reg))), encoded(pair(impl.OpTest, 1, ofReg(5), ofReg(reg))))})
		if reg != 4 && reg != 5 && reg != 15 {
			list = append(list, takenCase{pieces: pieces(encoded(single(impl.OpPop, 8, ofReg(reg))))}, takenCase{pieces: pieces(encoded(pair(impl.OpMov, 8, ofReg(reg), ofReg(4))), encoded(pair(impl.OpMov, 4, ofReg(reg), ofReg(5))), encoded(pair(impl.OpMov, 8, ofReg(reg), ofReg(15))))})
		}
	}
	list = append(list,
		takenCase{pieces: pieces(encoded(source(impl.OpPush, 8, ofNumber(5))), encoded(source(impl.OpPush, 8, ofNumber(500))))},
		takenCase{pieces: pieces(encoded(single(impl.OpPop, 8, basedOn(4, 8))), encoded(source(impl.OpPush, 8, basedOn(5, -8))))},
		takenCase{pieces: pieces("\x48\x89\xe5", "\x48\x89\xec")},
		takenCase{pieces: pieces("\x48\x8b\xec", "\x48\x8b\xe5")},
		takenCase{pieces: pieces(encoded(source(impl.OpMul, 8, ofReg(4))), encoded(pair(impl.OpXor, 1, ofReg(16), ofReg(17))), encoded(pair(impl.OpXor, 1, ofReg(19), ofReg(18))))})
	checkTaken(t, list...)
}

// settersOf are instructions of Size 4 that set a register, of those by which registers 4 and 5 may be set.
func settersOf(reg int) []impl.Instr {
	dst := ofReg(reg)
	return []impl.Instr{pair(impl.OpSub, 4, dst, ofNumber(8)), pair(impl.OpAdd, 4, dst, ofReg(0)), pair(impl.OpAdd, 4, dst, ofReg(15)), pair(impl.OpMov, 4, dst, ofReg(1)), pair(impl.OpMov, 4, dst, ofReg(9-reg)), pair(impl.OpMov, 4, dst, ofNumber(-1)),
		pair(impl.OpLea, 4, dst, ofMemory(3, 1, 8, 70000)), pair(impl.OpLea, 4, dst, basedOn(reg, -8)), pair(impl.OpMov, 4, dst, basedOn(15, 8)), pair(impl.OpXchg, 4, dst, ofReg(3)), pair(impl.OpXchg, 4, dst, dst), single(impl.OpInc, 4, dst),
		single(impl.OpNot, 4, dst), pair(impl.OpShl, 4, dst, ofNumber(3)), pair(impl.OpRol, 4, dst, ofReg(1)), pair(impl.OpImul, 4, dst, ofReg(2)), extend(impl.OpMovzx, 4, 1, dst, ofReg(17)), extend(impl.OpMovsx, 4, 2, dst, ofReg(2)),
		withCond("e", pair(impl.OpCmov, 4, dst, ofReg(2))), pair(impl.OpAnd, 4, dst, ofReg(1)), pair(impl.OpAnd, 4, dst, ofNumber(4064)), pair(impl.OpAnd, 4, dst, ofNumber(4094)), pair(impl.OpAnd, 4, dst, ofNumber(-16)), pair(impl.OpOr, 4, dst, ofNumber(4095))}
}

// TestTakenPieces has a register of the stack in its pieces: three, or the mask and the addition alone.
func TestTakenPieces(t *testing.T) {
	var list []takenCase
	for _, reg := range []int{4, 5} {
		mask, base := masking(reg, 4095), basing(reg)
		list = append(list,
			takenCase{pieces: pieces(mask, base), inner: []int{6}},
			takenCase{pieces: pieces(nops(23), mask, base, hlt), inner: []int{29}},
			takenCase{pieces: pieces(mask, base, mask, base), inner: []int{6, 15}},
			takenCase{pieces: pieces(mask, base, masking(0, 4095), reading(indexedBy(0, 0))), inner: []int{6, 15}})
		for _, x := range settersOf(reg) {
			set := encoded(x)
			list = append(list, takenCase{pieces: pieces(set, mask, base), inner: []int{len(set) + 6}}, takenCase{pieces: pieces(nops(23-len(set)), set, mask, base, hlt), inner: []int{29}}, takenCase{pieces: pieces(nops(40), set, mask, base), inner: []int{46 + len(set)}})
		}
	}
	// The other form of the addition is one, too.
	list = append(list, takenCase{pieces: pieces(masking(4, 4095), "\x49\x03\xe7"), inner: []int{6}}, takenCase{pieces: pieces("\x83\xec\x08", masking(4, 4095), "\x49\x03\xe7"), inner: []int{9}})
	checkTaken(t, list...)
}

// TestTakenIndirect has jumps and calls through each register that may be gone through.
func TestTakenIndirect(t *testing.T) {
	var list []takenCase
	for _, reg := range []int{0, 1, 2, 3, 6, 7, 8, 9, 10, 11, 12, 13, 14} {
		mask, base, jump, call := masking(reg, 4064), basing(reg), through(impl.OpJmp, ofReg(reg)), through(impl.OpCall, ofReg(reg))
		n := len(mask)
		list = append(list,
			takenCase{pieces: pieces(mask, base, jump), inner: []int{n, n + 3}},
			takenCase{pieces: pieces(nops(32-n-3-len(jump)), mask, base, jump), inner: []int{32 - 3 - len(jump), 32 - len(jump)}},
			takenCase{pieces: pieces(nops(32-n-3-len(call)), mask, base, call, hlt), inner: []int{32 - 3 - len(call), 32 - len(call)}},
			takenCase{pieces: pieces(mask, mask, base, jump), inner: []int{2 * n, 2*n + 3}},
			takenCase{pieces: pieces(nops(32), mask, base, jump), inner: []int{32 + n, 35 + n}},
			// What nobody goes through is not inner, whatever its mask.
			takenCase{pieces: pieces(mask, base, nop)},
			takenCase{pieces: pieces(masking(reg, 4095), base)},
			takenCase{pieces: pieces(base, mask)},
			takenCase{pieces: pieces(nops(29-n), mask, base, hlt)},
			takenCase{pieces: pieces(mask, base, encoded(source(impl.OpPush, 8, ofReg(reg))))})
	}
	checkTaken(t, list...)
}

// TestTakenJumps has goals forwards, backwards, at the jump itself, in other bundles, several alike, and of both lengths.
func TestTakenJumps(t *testing.T) {
	checkTaken(t,
		takenCase{pieces: pieces("\xeb\x00"), goals: []int{2}},
		takenCase{pieces: pieces("\xeb\x1d"), goals: []int{31}},
		takenCase{pieces: pieces("\xeb\xfe"), goals: []int{0}},
		takenCase{pieces: pieces(nops(7), "\xeb\xfe"), goals: []int{7}},
		takenCase{pieces: pieces(nops(3), "\xeb\xfb"), goals: []int{0}},
		takenCase{pieces: pieces(nops(30), "\xeb\xfe"), goals: []int{30}},
		takenCase{pieces: pieces(nops(30), "\xeb\xe0"), goals: []int{0}},
		takenCase{pieces: pieces("\x74\xfe", "\x75\xfc", "\x7f\x00"), goals: []int{0, 0, 6}},
		takenCase{pieces: pieces(going(impl.OpJcc, 0, 0), going(impl.OpJmp, 6, 11), going(impl.OpJmp, 11, 6), going(impl.OpJcc, 16, 31)), goals: []int{0, 11, 6, 31}},
		takenCase{pieces: pieces(going(impl.OpJmp, 0, 64), nops(27), going(impl.OpJmp, 32, 0), nops(27), going(impl.OpJcc, 64, 70), going(impl.OpJmp, 70, 95)), goals: []int{64, 0, 70, 95}},
		takenCase{pieces: pieces(nops(27), going(impl.OpJmp, 27, 27)), goals: []int{27}},
		takenCase{pieces: pieces(nops(27), going(impl.OpCall, 27, 0), hlt), goals: []int{0}},
		takenCase{pieces: pieces(nops(27), going(impl.OpCall, 27, 27), hlt), goals: []int{27}},
		takenCase{pieces: pieces(nops(59), going(impl.OpCall, 59, 64), nops(27), going(impl.OpCall, 91, 32), hlt), goals: []int{64, 32}},
	)
}

// TestTakenGoalsOfPieces: where a group of instructions begins a jump may go, and also to what sets a register of the stack, and to the mask behind it.
func TestTakenGoalsOfPieces(t *testing.T) {
	checkTaken(t,
		takenCase{pieces: pieces(masking(1, 4095), reading(indexedBy(1, 0)), going(impl.OpJmp, 10, 0)), inner: []int{6}, goals: []int{0}},
		takenCase{pieces: pieces(masking(1, 4064), basing(1), through(impl.OpJmp, ofReg(1)), going(impl.OpJmp, 11, 0)), inner: []int{6, 9}, goals: []int{0}},
		takenCase{pieces: pieces("\x83\xec\x08", masking(4, 4095), basing(4), going(impl.OpJmp, 12, 0), going(impl.OpJmp, 17, 3)), inner: []int{9}, goals: []int{0, 3}},
		takenCase{pieces: pieces(masking(1, 4064), basing(1), going(impl.OpJmp, 9, 6)), goals: []int{6}},
		takenCase{pieces: pieces(masking(1, 4095), basing(1), going(impl.OpJmp, 9, 6)), goals: []int{6}},
	)
}

// TestTakenTrampolines goes to each of them, in each way.
func TestTakenTrampolines(t *testing.T) {
	var list []takenCase
	for k := range 8 {
		goal := 16640 + 32*k - codeAt
		list = append(list,
			takenCase{pieces: pieces(going(impl.OpJmp, 0, goal)), goals: []int{goal}},
			takenCase{pieces: pieces(nops(2), going(impl.OpJcc, 2, goal), going(impl.OpJmp, 8, goal)), goals: []int{goal, goal}},
			takenCase{pieces: pieces(nops(27), going(impl.OpCall, 27, goal), hlt), goals: []int{goal}})
	}
	checkTaken(t, list...)
}

// TestTakenEnds has instructions that end just where their bundle ends.
func TestTakenEnds(t *testing.T) {
	for _, x := range []impl.Instr{pair(impl.OpMov, 8, ofReg(0), ofReg(3)), pair(impl.OpMov, 8, ofReg(9), ofNumber(1<<40)), pair(impl.OpXor, 4, ofReg(0), ofReg(0)), pair(impl.OpMov, 8, basedOn(4, 1000), ofNumber(100000)), source(impl.OpPush, 8, ofReg(0)), {Op: impl.OpNop}} {
		text := encoded(x)
		for _, ahead := range []int{32, 64, 3072 - 64} {
			checkTaken(t, takenCase{pieces: pieces(nops(ahead-len(text)), text, hlt)}, takenCase{pieces: pieces(nops(ahead-len(text)), text, text, hlt)})
		}
	}
}

// TestTakenWhole has as much code as there may be, which stands at one place alone.
func TestTakenWhole(t *testing.T) {
	text := strings.Repeat(masking(1, 4095)+reading(indexedBy(1, 0))+nops(20)+"\xeb\xfe", 96)
	var want impl.Report
	for from := 0; from < 3072; from += 32 {
		want.Starts = append(want.Starts, from, from+6)
		for i := range 21 {
			want.Starts = append(want.Starts, from+10+i)
		}
		want.Inner = append(want.Inner, from+6)
		want.Goals = append(want.Goals, from+30)
	}
	checkValidate(t, text, 16896, want, impl.OK)
	checkTiled(t, text, 16896)
	for _, at := range []int{16864, 16928, 16895, 16897, 0} {
		checkValidate(t, text, at, impl.Report{}, impl.ErrRange)
	}
}
