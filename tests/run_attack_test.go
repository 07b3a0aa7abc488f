package tests

import (
	"slices"
	"strings"
	"testing"

	"loop.example/g00664/impl"
)

// An attack is code, by its instructions, that would leave the sandbox if it were not refused: the code for which it is, and the kinds of breaches that it has when it is run all the same.
type attack struct {
	name   string
	pieces []string
	code   int
	kinds  []int
}

// jumpPast is a jump over so many bytes.
func jumpPast(n int) string { return "\xeb" + string([]byte{byte(n)}) }

func storeAt(place impl.Operand) string { return moving(place, ofReg(9)) }

func settingWide(reg, n int) string {
	return encoded(pair(impl.OpMov, 8, ofReg(reg), ofNumber(n)))
}

// memoryAttacks reach memory that is private, or lies beyond the guards.
func memoryAttacks() []attack {
	const mask = impl.ErrMask
	private, beyond, reads := []int{2, 4, 7}, []int{2}, []int{2, 4}
	return []attack{
		{"a register without a mask", pieces(setting(9, -1), setting(0, 4096), storeAt(basedOn(0, 0))), mask, private},
		{"no register at all", pieces(setting(9, -1), storeAt(absolute(32768))), mask, private},
		{"an index without a mask", pieces(setting(9, -1), settingWide(1, -12288), storeAt(indexedBy(1, 0))), mask, private},
		{"an index with another mask", pieces(setting(9, -1), setting(1, 16384), masking(1, 65535), storeAt(indexedBy(1, 0))), mask, private},
		{"an index of which the lowest bytes are masked", pieces(setting(9, -1), settingWide(1, 16384-1<<32), encoded(pair(impl.OpAnd, 2, ofReg(1), ofNumber(32767))), storeAt(ofMemory(15, 1, 1, 0))), mask, beyond},
		{"a mask that is not of the index", pieces(setting(9, -1), settingWide(1, -12288), masking(2, 4095), storeAt(indexedBy(1, 0))), mask, private},
		{"a mask that is undone", pieces(setting(9, -1), masking(1, 4095), setting(1, 16384), storeAt(indexedBy(1, 0))), mask, private},
		{"a mask that a jump goes past", pieces(setting(9, -1), setting(1, 16384), jumpPast(6), masking(1, 4095), storeAt(indexedBy(1, 0))), impl.ErrTarget, private},
		{"an index times eight", pieces(setting(1, 4095), masking(1, 4095), storeAt(ofMemory(15, 1, 8, 0))), mask, beyond},
		{"an index beside the stack", pieces(setting(1, 4095), masking(1, 4095), storeAt(ofMemory(4, 1, 1, 2047))), mask, beyond},
		{"a displacement above", pieces(reading(basedOn(15, 16384))), impl.ErrDisp, reads},
		{"a displacement below", pieces(reading(basedOn(5, 4096-20480))), impl.ErrDisp, reads},
		{"memory beside the instruction", pieces(reading(ofMemory(impl.RegRip, -1, 1, 32768-16903))), impl.ErrRip, reads},
		{"bytes that are stored one by one", pieces(setting(7, 4096), setting(0, 9), "\xaa"), impl.ErrUnsafe, private},
		{"bytes that are moved one by one", pieces(setting(6, 4096), setting(7, 4097), "\xa4"), impl.ErrUnsafe, private},
	}
}

// registerAttacks write the registers that all else is built upon.
func registerAttacks() []attack {
	const stack = impl.ErrStack
	private, beyond, based := []int{2, 4, 7}, []int{2}, []int{5}
	var list []attack
	for name, x := range map[string]impl.Instr{"mov": pair(impl.OpMov, 8, ofReg(15), ofReg(0)), "mov of Size 4": pair(impl.OpMov, 4, ofReg(15), ofReg(0)), "mov of Size 1": pair(impl.OpMov, 1, ofReg(15), ofNumber(1)), "inc": single(impl.OpInc, 2, ofReg(15)), "lea": pair(impl.OpLea, 8, ofReg(15), basedOn(15, 256)),
		"xchg": pair(impl.OpXchg, 8, ofReg(0), ofReg(15)), "setcc": withCond("ne", single(impl.OpSetcc, 1, ofReg(15))), "cmov": withCond("ne", pair(impl.OpCmov, 4, ofReg(15), ofReg(0))), "shl": pair(impl.OpShl, 8, ofReg(15), ofNumber(1)), "movzx": extend(impl.OpMovzx, 8, 1, ofReg(15), ofReg(0))} {
		list = append(list, attack{"register 15 by " + name, pieces(encoded(x)), impl.ErrBase, based})
	}
	return append(list, []attack{
		{"register 15 from the stack", pieces("\x50", encoded(single(impl.OpPop, 8, ofReg(15)))), impl.ErrBase, based},
		{"the stack elsewhere", pieces(setting(4, 4352), "\x54"), stack, private},
		{"the lowest bytes of the stack elsewhere", pieces(encoded(pair(impl.OpMov, 2, ofReg(4), ofNumber(4352))), "\x54"), stack, private},
		{"the frame elsewhere", pieces(setting(5, 4096), storeAt(basedOn(5, 8))), stack, private},
		{"the stack exchanged", pieces(setting(0, 4352), encoded(pair(impl.OpXchg, 8, ofReg(4), ofReg(0))), "\x54"), stack, private},
		{"the stack from the stack", pieces(encoded(source(impl.OpPush, 8, ofNumber(4352))), "\x5c", "\x54"), stack, private},
		{"the frame from the stack", pieces(encoded(source(impl.OpPush, 8, ofNumber(4096))), "\x5d", storeAt(basedOn(5, 8))), stack, private},
		{"the stack twice as high", pieces(encoded(pair(impl.OpAdd, 8, ofReg(4), ofReg(4))), "\x58"), stack, beyond},
		{"the base added once more", pieces(basing(4), "\x50"), stack, beyond},
		{"a mask of the stack without the base", pieces(setting(4, -1), masking(4, 4095), "\x58"), stack, beyond},
		{"the base added past its mask", pieces(jumpPast(12), setting(4, 3800), masking(4, 4095), basing(4), "\x50"), impl.ErrTarget, beyond},
		{"the frame past its mask", pieces(jumpPast(6), masking(5, 4095), basing(5), storeAt(basedOn(5, 8))), impl.ErrTarget, beyond},
		{"another mask of the stack", pieces(setting(4, -1), masking(4, 65535), basing(4), "\x50"), stack, beyond},
	}...)
}

// jumpAttacks come into the midst of an instruction.
func jumpAttacks() []attack {
	// A mov whose number is four nops: its offset 1 is in the midst of it.
	hidden := "\xb8\x90\x90\x90\x90"
	midst := []int{1}
	return []attack{
		{"a jump into an instruction", pieces(jumpPast(1), hidden), impl.ErrTarget, midst},
		{"a jump back into an instruction", pieces(hidden, "\xeb\xfa"), impl.ErrTarget, midst},
		{"a branch into an instruction", pieces("\x75\x01", hidden), impl.ErrTarget, midst},
		{"a call of an instruction's midst", pieces(nops(21), hidden, going(impl.OpCall, 26, 22), nop), impl.ErrCall, midst},
		{"a call of an instruction's midst from the end of its bundle", pieces(nops(22), hidden, going(impl.OpCall, 27, 23)), impl.ErrTarget, midst},
		{"a jump through a register as it is", pieces(setting(1, 16896+9), through(impl.OpJmp, ofReg(1)), hidden), impl.ErrIndirect, midst},
		{"a jump through memory", pieces(encoded(source(impl.OpPush, 8, ofNumber(16896+10))), through(impl.OpJmp, basedOn(4, 0)), hidden), impl.ErrIndirect, midst},
		{"a jump through a register with the mask of data", pieces(setting(1, 512+18), masking(1, 4095), basing(1), through(impl.OpJmp, ofReg(1)), hidden), impl.ErrIndirect, midst},
		{"a jump through a register past its mask", pieces(setting(1, 512+20), jumpPast(6), masking(1, 4064), basing(1), through(impl.OpJmp, ofReg(1)), hidden), impl.ErrTarget, midst},
		{"a jump through a register past mask and base", pieces(setting(1, 16896+20), jumpPast(9), masking(1, 4064), basing(1), through(impl.OpJmp, ofReg(1)), hidden), impl.ErrTarget, midst},
		{"a jump through the base", pieces(encoded(pair(impl.OpAdd, 8, ofReg(15), ofNumber(-1))), through(impl.OpJmp, ofReg(15))), impl.ErrBase, []int{5}},
		{"a way back to no bundle", pieces(encoded(source(impl.OpPush, 8, ofNumber(16896+7))), "\xc3", hidden), impl.ErrUnsafe, midst},
		{"an instruction over the end of its bundle", pieces(setting(1, 544), masking(1, 4064), basing(1), through(impl.OpJmp, ofReg(1)), nops(14), hidden), impl.ErrBundle, midst},
		{"a way back into what crosses the end of a bundle", pieces(encoded(source(impl.OpPush, 8, ofNumber(16928))), going(impl.OpJmp, 5, trampFrom(4)), nops(21), hidden), impl.ErrBundle, midst},
	}
}

// kindsOfAttack are the kinds of breaches of an attack that is run all the same, but that its code is not what was loaded; kind 1 where a step began in the midst of a piece.
func kindsOfAttack(t *testing.T, v attack) []int {
	t.Helper()
	plain, _ := watched(t)
	l, code := impl.MapImage(programOf(512, strings.Join(v.pieces, "")))
	if code != impl.OK {
		t.Fatal(v.name, code)
	}
	b, _ := impl.NewBox(l, "", 1)
	is := [8]bool{}
	list, code := impl.BreachesOf(b, plain, 40)
	if code != impl.OK {
		t.Fatal(v.name, code)
	}
	for _, breach := range list {
		is[breach.Kind] = breach.Kind != 1 && breach.Kind != 6
	}
	starts := takenCase{pieces: v.pieces}.startsOf()
	trace, _ := impl.TraceBox(b, 40)
	last, _, _ := impl.RunBox(b, 40)
	for i, rip := range trace {
		_, tramp := trampByHand(rip)
		is[1] = is[1] || !tramp && !slices.Contains(starts, rip-16896) && !(i == len(trace)-1 && last.Fault == impl.ErrFetch)
	}
	var kinds []int
	for kind, yes := range is {
		if yes {
			kinds = append(kinds, kind)
		}
	}
	return kinds
}

// TestAttacks holds for P14 from the other side: what would break something is refused, each by the rule that is there for it.
func TestAttacks(t *testing.T) {
	for _, v := range slices.Concat(memoryAttacks(), registerAttacks(), jumpAttacks()) {
		im := programOf(512, strings.Join(v.pieces, ""))
		if l, _, code := impl.LoadImage(im); code != v.code || !likeLoaded(l, impl.Loaded{}) {
			t.Errorf("%s: LoadImage has the code %q, want %q", v.name, impl.CodeWord(code), impl.CodeWord(v.code))
		}
		if kinds := kindsOfAttack(t, v); !slices.Equal(kinds, v.kinds) {
			t.Errorf("%s: run all the same it breaks %v, want %v", v.name, kinds, v.kinds)
		}
	}
}
