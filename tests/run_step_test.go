package tests

import (
	"math"
	"math/rand"
	"slices"
	"strings"
	"testing"

	"loop.example/g00664/impl"
)

// at is the change that Rip is elsewhere.
func at(rip int) func(b *impl.Box) { return func(b *impl.Box) { b.Cpu.Rip = rip } }

// runsFrom is a box with code laid where Rip is.
func runsFrom(b impl.Box, rip int, code string) impl.Box {
	return withBox(b, both(at(rip), putsBytes(rip, code)))
}

// TestStepsAtTrampolines: where a trampoline begins, a step is what Serve does with its number, of 6 and 7, too; no access is told, whatever stands there.
func TestStepsAtTrampolines(t *testing.T) {
	boxes := []impl.Box{servable(), withPQ(startBox(), -1, -1), withPQ(startBox(), 512, 600), crowdedBox(32), withBox(servable(), func(b *impl.Box) { b.Cpu.Regs[4] = 20480 }), withBox(servable(), func(b *impl.Box) { b.Cpu.Regs[4] = 16888 }),
		withBox(servable(), putsBytes(16640, strings.Repeat("\xc3", 256))), withBox(servable(), func(b *impl.Box) { b.Memory.Pages[1].Perm = 0 }), withBox(servable(), func(b *impl.Box) { b.Memory.Pages = slices.Delete(b.Memory.Pages, 1, 2) })}
	for _, b := range boxes {
		for n := range 8 {
			b := withBox(b, at(16640+32*n))
			want, code := impl.Serve(b, n)
			got, told, c := impl.StepBox(b)
			if !likeBox(got, want) || len(told) != 0 || c != code || c != impl.OK {
				t.Errorf("a step at trampoline %d of %s: %s, %v, %q, want %s", n, toldBox(b), toldBox(got), told, impl.CodeWord(c), toldBox(want))
			}
			checkRunBox(t, b, 3)
		}
	}
}

// TestTrampolinesInTurn tells what each trampoline leaves of one box.
func TestTrampolinesInTurn(t *testing.T) {
	goesOn := func(answer int) func(b *impl.Box) {
		return func(b *impl.Box) { b.Cpu.Regs[0], b.Cpu.Regs[4], b.Cpu.Rip = answer, 20480, 16960 }
	}
	for n, then := range []func(b *impl.Box){
		func(b *impl.Box) { b.State, b.Code = 2, 1024 },
		both(lays(1024, "hello"), goesOn(5)),
		both(func(b *impl.Box) { b.Output = "data\x00" }, goesOn(5)),
		both(grows(2560, 1536, 1792, 2048, 2304), goesOn(1536)),
		both(func(b *impl.Box) { b.Clock = 1 }, goesOn(0)),
		both(func(b *impl.Box) { b.Seed = 1282168116 }, goesOn(19564)),
		goesOn(1<<32 - 38),
		goesOn(1<<32 - 38),
	} {
		b := withBox(servable(), at(16640+32*n))
		want := withBox(b, then)
		if got, told, code := impl.StepBox(b); !likeBox(got, want) || len(told) != 0 || code != impl.OK {
			t.Errorf("a step at trampoline %d: %s, %v, %q, want %s", n, toldBox(got), told, impl.CodeWord(code), toldBox(want))
		}
	}
}

// TestStepsBesideTrampolines: an address that is not just where one begins has what stands there, and so have those where there is none.
func TestStepsBesideTrampolines(t *testing.T) {
	b := servable()
	b.Memory = memory(toldPage(16384, 5, "", nop), toldPage(16640, 4, "", nop), toldPage(16896, 5, "", nop), toldPage(20224, 3, "", "\x00"))
	for rip := 16384; rip < 17152; rip++ {
		b := withBox(b, at(rip))
		if _, is := trampByHand(rip); is {
			if got := checkStepBox(t, b); len(got.told) != 0 {
				t.Errorf("at %d there is told %v", rip, got.told)
			}
			continue
		}
		want := withBox(b, at(rip+1))
		if got, told, code := impl.StepBox(b); !likeBox(got, want) || !slices.Equal(told, accesses(runOf(rip, 1))) || code != impl.OK {
			t.Errorf("a step at %d: %s, %v, %q", rip, toldBox(got), told, impl.CodeWord(code))
		}
	}
	for _, rip := range []int{256, 288, 16640 - 1<<32, 16640 + 1<<32, math.MinInt + 16640, 16672 - 1<<16, -16640} {
		b := withBox(b, at(rip))
		if got := checkStepBox(t, b); got.box.Fault != impl.ErrFetch || !slices.Equal(got.told, accesses(runOf(rip, 1))) {
			t.Errorf("a step at %d: %s, %v", rip, toldBox(got.box), got.told)
		}
	}
}

// stepPages are pages told by what may be done with them, each beside another one or beside none.
const (
	stepCode  = 16896 // run and read
	stepBoth  = 17152 // read and written
	stepRead  = 17408
	stepWrite = 17664
	stepNone  = 17920 // no page
	stepMore  = 18176 // read and written
	stepAll   = 18432
)

func stepMemory() impl.Memory {
	return memory(page(4096, 3), toldPage(16640, 4, "", hlt), toldPage(stepCode, 5, "", hlt), page(stepBoth, 3), page(stepRead, 1), page(stepWrite, 2), page(stepMore, 3), page(stepAll, 7), page(32768, 3))
}

// stepBox is a box at an address of its code, whose registers point to no page, but for the stack's.
func stepBox(code string) impl.Box {
	b := withBox(startBox(), func(b *impl.Box) { b.Memory = stepMemory() })
	b.Cpu.Regs[4], b.Cpu.Regs[5] = stepMore+128, stepMore+128
	return runsFrom(b, stepCode+16, code)
}

func absolute(address int) impl.Operand { return ofMemory(-1, -1, 1, address) }

// A stepFault is an instruction that faults, what is told besides that it is run, and where.
type stepFault struct {
	code  string
	regs  map[int]int
	told  []impl.Access
	fault int
	where int
}

// cellOf is the number of so many bytes that stepMemory has at an address.
func cellOf(address, size int) int {
	return littleOf([]byte(bytesByHand(stepMemory(), address, size)))
}

func readIn(address, size int) impl.Access { return readOf(address, size, cellOf(address, size)) }

// checkStepFaults looks at each of them by StepBox, and by runs of several lengths.
func checkStepFaults(t *testing.T, list []stepFault) {
	t.Helper()
	for _, v := range list {
		b := stepBox(v.code)
		regsAre(v.regs)(&b)
		x, _ := impl.Decode(v.code, 0)
		want := withBox(b, faults(v.fault, v.where))
		told := append([]impl.Access{runOf(b.Cpu.Rip, x.Len)}, v.told...)
		if got, list, code := impl.StepBox(b); !likeBox(got, want) || !slices.Equal(list, told) || code != impl.OK {
			t.Errorf("a step of % x: %s, %v, %q, want %s, %v", v.code, toldBox(got), list, impl.CodeWord(code), toldBox(want), told)
		}
		checkStepBox(t, b)
		checkRunOf(t, b, 0, nil)
		for _, n := range []int{1, 2, 400} {
			checkRunOf(t, b, n, []stepped{{b.Cpu.Rip, want, told}})
		}
	}
}

// TestFaultsOfAccesses: Where is the address of the last access, which is the one that failed; those ahead of it went well and are told.
func TestFaultsOfAccesses(t *testing.T) {
	const page, perm = impl.ErrPage, impl.ErrPerm
	sum := cellOf(stepRead, 8) + 5
	checkStepFaults(t, []stepFault{
		{moving(ofReg(0), absolute(stepNone)), nil, accesses(readOf(stepNone, 8, 0)), page, stepNone},
		{moving(ofReg(0), absolute(stepWrite)), nil, accesses(readOf(stepWrite, 8, 0)), perm, stepWrite},
		{moving(absolute(stepNone), ofReg(0)), map[int]int{0: 9}, accesses(writeOf(stepNone, 8, 9)), page, stepNone},
		{moving(absolute(stepRead), ofReg(0)), map[int]int{0: -9}, accesses(writeOf(stepRead, 8, -9)), perm, stepRead},
		{moving(absolute(stepCode), ofReg(0)), map[int]int{0: 1}, accesses(writeOf(stepCode, 8, 1)), perm, stepCode},
		{encoded(pair(impl.OpAdd, 8, absolute(stepRead), ofNumber(5))), nil, accesses(readIn(stepRead, 8), writeOf(stepRead, 8, sum)), perm, stepRead},
		{encoded(pair(impl.OpAdd, 8, absolute(stepWrite), ofNumber(5))), nil, accesses(readOf(stepWrite, 8, 0)), perm, stepWrite},
		{encoded(pair(impl.OpXchg, 4, absolute(stepRead), ofReg(0))), map[int]int{0: 1<<32 + 7}, accesses(readIn(stepRead, 4), writeOf(stepRead, 4, 7)), perm, stepRead},
		{encoded(source(impl.OpPush, 8, absolute(stepBoth))), map[int]int{4: stepRead + 16}, accesses(readIn(stepBoth, 8), writeOf(stepRead+8, 8, cellOf(stepBoth, 8))), perm, stepRead + 8},
		{encoded(source(impl.OpPush, 8, absolute(stepNone))), map[int]int{4: stepRead + 16}, accesses(readOf(stepNone, 8, 0)), page, stepNone},
		{encoded(single(impl.OpPop, 8, absolute(stepRead))), nil, accesses(readIn(stepMore+128, 8), writeOf(stepRead, 8, cellOf(stepMore+128, 8))), perm, stepRead},
		{encoded(single(impl.OpPop, 8, basedOn(4, 0))), map[int]int{4: stepBoth + 248}, accesses(readIn(stepBoth+248, 8), writeOf(stepRead, 8, cellOf(stepBoth+248, 8))), perm, stepRead},
		{encoded(single(impl.OpPop, 8, ofReg(0))), map[int]int{4: stepWrite + 3}, accesses(readOf(stepWrite+3, 8, 0)), perm, stepWrite + 3},
		{encoded(source(impl.OpCall, 8, absolute(stepBoth))), map[int]int{4: stepNone + 64}, accesses(readIn(stepBoth, 8), writeOf(stepNone+56, 8, stepCode+16+7)), page, stepNone + 56},
		{going(impl.OpCall, 0, 0), map[int]int{4: stepCode + 8}, accesses(writeOf(stepCode, 8, stepCode+16+5)), perm, stepCode},
		{encoded(source(impl.OpJmp, 8, absolute(stepNone+9))), nil, accesses(readOf(stepNone+9, 8, 0)), page, stepNone + 9},
		{"\xc3", map[int]int{4: stepWrite}, accesses(readOf(stepWrite, 8, 0)), perm, stepWrite},
		{"\xa4", map[int]int{6: stepBoth + 5, 7: stepRead + 5}, accesses(readIn(stepBoth+5, 1), writeOf(stepRead+5, 1, cellOf(stepBoth+5, 1))), perm, stepRead + 5},
		{"\xa4", map[int]int{6: stepNone + 5, 7: stepRead + 5}, accesses(readOf(stepNone+5, 1, 0)), page, stepNone + 5},
		{"\xaa", map[int]int{0: 0x1ff, 7: -1}, accesses(writeOf(-1, 1, 255)), page, -1},
	})
}

// TestFaultsOverPages: of an access over the end of a page Where is the address where it begins, whichever of its bytes cannot be had; nothing of it is stored.
func TestFaultsOverPages(t *testing.T) {
	const page, perm = impl.ErrPage, impl.ErrPerm
	load := func(address, fault int) stepFault {
		return stepFault{moving(ofReg(0), absolute(address)), nil, accesses(readOf(address, 8, 0)), fault, address}
	}
	store := func(address, fault int) stepFault {
		return stepFault{moving(absolute(address), ofReg(0)), map[int]int{0: 0x102030405060708}, accesses(writeOf(address, 8, 0x102030405060708)), fault, address}
	}
	far := func(base int) stepFault {
		return stepFault{moving(ofReg(0), basedOn(3, 0)), map[int]int{3: base}, accesses(readOf(base, 8, 0)), page, base}
	}
	var list []stepFault
	for i := 1; i < 8; i++ {
		list = append(list, load(stepWrite-i, perm), load(stepNone-i, perm), load(stepMore-i, page), load(stepAll+256-i, page), load(stepCode-256-i, page), load(4096-i, page), load(4352-i, page),
			store(stepRead-i, perm), store(stepNone-i, page), store(stepMore-i, page), store(stepBoth-i, perm), store(stepCode-i, perm), store(stepAll+256-i, page))
	}
	for _, base := range []int{-1, -7, -8, math.MinInt, math.MaxInt, math.MaxInt - 7, math.MinInt + stepBoth, stepBoth + 1<<32, 65536, 65529} {
		list = append(list, far(base))
	}
	list = append(list, stepFault{moving(ofReg(0), ofMemory(3, 6, 8, -16)), map[int]int{3: math.MaxInt, 6: math.MaxInt}, accesses(readOf(math.MaxInt-24, 8, 0)), page, math.MaxInt - 24})
	checkStepFaults(t, list)
}

// TestOtherFaults: of all other codes Where is Rip, and what was read ahead is told.
func TestOtherFaults(t *testing.T) {
	rip := stepCode + 16
	wide := map[int]int{0: 5, 2: 7}
	checkStepFaults(t, []stepFault{
		{hlt, nil, nil, impl.ErrHalt, rip},
		{"\x0f\x05", nil, nil, impl.ErrTrap, rip},
		{"\xcd\x80", nil, nil, impl.ErrTrap, rip},
		{encoded(source(impl.OpDiv, 8, ofReg(3))), map[int]int{0: 1, 2: 0, 3: 0}, nil, impl.ErrDivide, rip},
		{encoded(source(impl.OpDiv, 4, ofReg(0))), wide, nil, impl.ErrDivide, rip},
		{encoded(source(impl.OpIdiv, 8, ofReg(3))), map[int]int{0: math.MinInt, 2: -1, 3: -1}, nil, impl.ErrDivide, rip},
		{encoded(source(impl.OpDiv, 1, absolute(stepMore))), map[int]int{0: 0xffff}, accesses(readIn(stepMore, 1)), impl.ErrDivide, rip},
		{encoded(source(impl.OpIdiv, 8, absolute(stepRead))), map[int]int{0: 0, 2: math.MinInt}, accesses(readIn(stepRead, 8)), impl.ErrDivide, rip},
		{encoded(source(impl.OpDiv, 8, absolute(stepNone))), wide, accesses(readOf(stepNone, 8, 0)), impl.ErrPage, stepNone},
	})
}

// TestFaultsOfFetches: where nothing may be run, or no instruction stands, Where is Rip, and one access of Size 1 is told.
func TestFaultsOfFetches(t *testing.T) {
	b := stepBox("")
	for _, v := range []struct {
		rip   int
		code  string
		fault int
	}{
		{stepNone, "", impl.ErrFetch}, {stepBoth, nop, impl.ErrFetch}, {stepRead, nop, impl.ErrFetch}, {stepWrite, nop, impl.ErrFetch}, {0, "", impl.ErrFetch}, {-1, "", impl.ErrFetch}, {math.MinInt, "", impl.ErrFetch}, {math.MaxInt, "", impl.ErrFetch},
		{stepBoth - 1, "\x0f", impl.ErrEnd}, {stepBoth - 1, "\xb8", impl.ErrEnd}, {stepBoth - 2, "\x48\x8b", impl.ErrEnd}, {stepAll + 252, "\x81\xe1\xff\x0f", impl.ErrEnd},
		{stepCode, "\xf0\x90", impl.ErrPrefix}, {stepCode, "\x66\x66\x90", impl.ErrPrefix}, {stepCode, "\x66\x50", impl.ErrPrefix}, {stepCode, "\x0f\x0b", impl.ErrOpcode}, {stepCode, "\x06", impl.ErrOpcode}, {stepBoth - 1, "\xd6", impl.ErrOpcode},
		{stepCode, "\x8d\xc0", impl.ErrOperand}, {stepAll, "\x48\x8d\xc0", impl.ErrOperand}, {stepAll, "\x06", impl.ErrOpcode},
	} {
		b := withBox(b, at(v.rip))
		if v.code != "" {
			b = runsFrom(b, v.rip, v.code)
		}
		want := withBox(b, faults(v.fault, v.rip))
		if got, told, code := impl.StepBox(b); !likeBox(got, want) || !slices.Equal(told, accesses(runOf(v.rip, 1))) || code != impl.OK {
			t.Errorf("a step of % x at %d: %s, %v, %q, want %s", v.code, v.rip, toldBox(got), told, impl.CodeWord(code), toldBox(want))
		}
		checkRunBox(t, b, 3)
	}
}

// TestFaultsOfTrampolines: where the way back can't be loaded Where is register 4, nothing is told, and the service is not done.
func TestFaultsOfTrampolines(t *testing.T) {
	for stack, fault := range map[int]int{stepNone: impl.ErrPage, stepWrite: impl.ErrPerm, stepNone - 3: impl.ErrPerm, stepWrite - 1: impl.ErrPerm, stepMore - 1: impl.ErrPage, stepAll + 249: impl.ErrPage, 16640: impl.ErrPerm, -8: impl.ErrPage, math.MaxInt - 3: impl.ErrPage, math.MinInt: impl.ErrPage} {
		for n := range 8 {
			b := stepBox("")
			b.Cpu.Rip, b.Cpu.Regs[4], b.Cpu.Regs[6], b.Cpu.Regs[7] = 16640+32*n, stack, 4, stepBoth-16384
			want := withBox(b, faults(fault, stack))
			if n == 0 {
				want = withBox(b, func(b *impl.Box) { b.State, b.Code = 2, stepBoth-16384 })
			}
			if got, told, code := impl.StepBox(b); !likeBox(got, want) || len(told) != 0 || code != impl.OK {
				t.Errorf("trampoline %d with the stack at %d: %s, %v, %q, want %s", n, stack, toldBox(got), told, impl.CodeWord(code), toldBox(want))
			}
			checkRunOf(t, b, 9, []stepped{{b.Cpu.Rip, want, nil}})
		}
	}
}

// TestStepsOfEachInstruction holds a step of each operation, with each size and kind of operand, against the tests' own, with whatever faults it has.
func TestStepsOfEachInstruction(t *testing.T) {
	source, faults := rand.New(rand.NewSource(31)), map[int]int{}
	for i, x := range cpuInstrs(newEncodings(t)) {
		b := withBox(startBox(), func(b *impl.Box) { b.Memory, b.Cpu = handMemory(), anyCpu(source, handRip) })
		if i%3 == 0 {
			b.Cpu.Regs[3], b.Cpu.Regs[4], b.Cpu.Regs[13] = oneOf(source, handRead, handWrite, handGap, 2300), oneOf(source, handRead+8, handWrite, handGap, 1284), oneOf(source, handWrite, handRead)
		}
		b.Memory, _ = laid(t, b.Memory, handRip, x)
		faults[checkStepBox(t, b).box.Fault]++
	}
	for _, code := range []int{impl.OK, impl.ErrPage, impl.ErrPerm, impl.ErrDivide, impl.ErrHalt, impl.ErrTrap} {
		if faults[code] == 0 {
			t.Errorf("no step has the fault %q", impl.CodeWord(code))
		}
	}
}
