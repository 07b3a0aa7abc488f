package tests

import (
	"math/rand"
	"slices"
	"testing"

	"loop.example/g00664/impl"
)

// TestToldRunsInParts holds for P13 of each of these programs, parted at each place.
func TestToldRunsInParts(t *testing.T) {
	for _, v := range toldRuns() {
		_, b := loadedRun(t, v)
		for n := range min(len(v.script.trace)+2, impl.MaxFuel) {
			if !sampled(n, len(v.script.trace)) {
				continue
			}
			for _, rest := range []int{0, 1, 2, impl.MaxFuel - n} {
				checkHalves(t, b, n, min(rest, impl.MaxFuel-n))
			}
		}
	}
}

// runMemory has pages that programs use that are told by absolute addresses, and the same code at two places: where it begins, and where a service comes back to.
func runMemory(random *rand.Rand, code string) impl.Memory {
	pages := append(handMemory().Pages, page(4096, 3), toldPage(16640, 4, "", hlt), toldPage(16896, oneOf(random, 4, 5, 7), code, nop), page(17152, oneOf(random, 0, 3, 3, 7)), page(19968, 3), page(20224, 3))
	return laidByHand(impl.Memory{Pages: pages}, handText, code)
}

// anyRunBox is a box with a program of all kinds of instructions, some of which call trampolines, and with numbers of all kinds; a wild one jumps into the midst of instructions, too.
func anyRunBox(random *rand.Rand, list []impl.Instr, wild bool) impl.Box {
	text := ""
	for len(text) < 120 {
		switch n := random.Intn(24); n % 6 {
		case 0:
			text += going(oneOf(random, impl.OpCall, impl.OpCall, impl.OpJmp, impl.OpJcc), handText+len(text), 16640+32*random.Intn(8))
		case 1:
			text += setting(7, oneOf(random, 3584+random.Intn(512), 768, 512, random.Intn(1<<31))) + setting(6, oneOf(random, 0, 1, 9, 100, 600))
		case 2:
			if wild {
				text += "\xeb" + string([]byte{byte(random.Intn(140) - 70)})
			} else if n == 14 {
				text += [2]string{"\x0f\x05", "\xcd\x03"}[random.Intn(2)]
			} else if n == 2 {
				text += encoded(source(oneOf(random, impl.OpDiv, impl.OpIdiv), oneOf(random, 1, 2, 4, 8), ofReg(random.Intn(16))))
			}
		default:
			text += encoded(list[random.Intn(len(list))])
		}
	}
	text += going(impl.OpJmp, len(text), 0)
	b := drawnBox(random)
	b.Memory, b.Cpu = runMemory(random, text), anyCpu(random, handText)
	return b
}

// TestAnyRuns holds runs of many boxes, whatever they do, against the tests' own, and for P13 parted anywhere, and step by step.
func TestAnyRuns(t *testing.T) {
	random, all := rand.New(rand.NewSource(38)), cpuInstrs(newEncodings(t))
	few, served, faults, long := steady(all), 0, map[int]int{}, 0
	for i := range 1200 {
		list := few
		if i%3 == 2 {
			list = all
		}
		b := anyRunBox(random, list, i%3 == 1)
		steps := checkRunBox(t, b, 150)
		last, _ := lastOf(b, steps)
		faults[last.Fault]++
		for _, s := range steps {
			if _, is := trampByHand(s.rip); is {
				served++
			}
		}
		if len(steps) == 150 {
			long++
		}
		for range 3 {
			first := random.Intn(min(len(steps)+2, 151))
			checkHalves(t, b, first, 150-first)
			checkHalves(t, b, first, random.Intn(3))
		}
	}
	for _, fault := range []int{impl.OK, impl.ErrPage, impl.ErrPerm, impl.ErrFetch, impl.ErrHalt, impl.ErrTrap, impl.ErrDivide} {
		if faults[fault] == 0 {
			t.Errorf("no box has the fault %q", impl.CodeWord(fault))
		}
	}
	if served < 300 || long < 10 {
		t.Error("so many steps at trampolines, and long runs:", served, long)
	}
}

// TestAnyMemories has boxes whose memory holds anything, and whose Rip is anywhere in it.
func TestAnyMemories(t *testing.T) {
	random := rand.New(rand.NewSource(39))
	for range 1500 {
		b := drawnBox(random)
		for k := range b.Memory.Pages {
			b.Memory.Pages[k].Perm |= oneOf(random, 0, 4, 7)
		}
		p := b.Memory.Pages[random.Intn(len(b.Memory.Pages))]
		b.Cpu.Rip = oneOf(random, p.Base+random.Intn(256), p.Base+255, 16640+32*random.Intn(8), b.Cpu.Rip)
		checkRunBox(t, b, 12)
		checkHalves(t, b, random.Intn(4), random.Intn(4))
	}
}

// TestLivelyRuns holds runs of loaded programs against the tests' own, and what they break in boxes in which a register, a byte or a Perm was changed.
func TestLivelyRuns(t *testing.T) {
	random, plain, broken := rand.New(rand.NewSource(40)), unending(plainInstrs(t)), map[int]int{}
	for range 150 {
		l, _, code := impl.LoadImage(livelyImage(random, plain))
		if code != impl.OK {
			t.Fatal("what was drawn is not taken", code)
		}
		b, _ := impl.NewBox(l, someData(random, 40), random.Intn(1<<31))
		steps := checkRunBox(t, b, 60)
		checkHalves(t, b, random.Intn(len(steps)+1), 60)
		checkBreaches(t, b, l, 60, nil)
		for range 6 {
			changed := changedRun(random, b, steps)
			if !boxRight(changed) {
				continue
			}
			for _, v := range checkBreachesBy(t, changed, l, 30) {
				broken[v.Kind]++
			}
		}
	}
	for kind := 1; kind < 8; kind++ {
		if broken[kind] < 10 {
			t.Errorf("a breach of kind %d came %d times", kind, broken[kind])
		}
	}
}

// changedRun is a box of one of these steps, or the one ahead of them, with a thing changed that the sandbox is built upon.
func changedRun(random *rand.Rand, b impl.Box, steps []stepped) impl.Box {
	if k := random.Intn(len(steps) + 1); k < len(steps) && steps[k].box.State == 1 {
		b = steps[k].box
	}
	b.Memory.Pages = slices.Clone(b.Memory.Pages)
	p := &b.Memory.Pages[random.Intn(len(b.Memory.Pages))]
	switch random.Intn(8) {
	case 0:
		b.Cpu.Regs[15] = oneOf(random, 0, 4096, 16385, 16384-4096, 16384+1<<32)
	case 1, 2:
		b.Cpu.Regs[4] = oneOf(random, 4352, 33024, 16384, 20480, 12296, p.Base+8, random.Intn(1<<16))
		b.Cpu.Regs[5] = b.Cpu.Regs[4]
	case 3:
		b.Cpu.Rip += oneOf(random, 1, 2, 3, -1, 32)
	case 4:
		p.Perm = 7
	case 5:
		b.Memory = changedByte(random, b.Memory)
	case 6:
		for k := range b.Memory.Pages {
			b.Memory.Pages[k].Perm |= oneOf(random, 0, 6)
		}
	default:
		return changedBox(random, b)
	}
	return b
}

func changedByte(random *rand.Rand, m impl.Memory) impl.Memory {
	p := m.Pages[random.Intn(len(m.Pages))]
	return laidByHand(m, p.Base+random.Intn(256), someData(random, 1))
}
