package tests

import (
	"math"
	"slices"
	"strings"
	"testing"

	"loop.example/g00664/impl"
)

// The bundles of what is watched, each with an instruction and hlts behind it.
const (
	watchStore = 32 * iota // of Size 8, where register 4 points to
	watchLoad              // likewise
	watchPush
	watchPop
	watchDivide // by the eight bytes where register 4 points to
	watchNops   // a number of which each byte is a nop, from its byte 2 on
	watchHalts  // a number of which each byte is a hlt, from its byte 1 on
	watchJump   // to itself
	watchIndex  // a load that is inner, at its byte 6
	watchEnd
)

func watchedText() string {
	text := ""
	for _, piece := range []string{moving(basedOn(4, 0), ofReg(0)), moving(ofReg(0), basedOn(4, 0)), "\x50", "\x58", encoded(source(impl.OpDiv, 8, basedOn(4, 0))), "\x48\xb8" + nops(8), "\xb8\xf4\xf4\xf4\xf4", "\xeb\xfe", masking(1, 4095) + reading(indexedBy(1, 0))} {
		text += filled(piece)
	}
	return text
}

// watched is what was loaded of that code, and its box.
func watched(t *testing.T) (impl.Loaded, impl.Box) {
	t.Helper()
	return loadedRun(t, ranCase{name: "what is watched", script: &script{text: watchedText()}})
}

// A watchCase is a box, in which all is as it was loaded but for some changes, and what its steps break, in the words of toldBreaches.
type watchCase struct {
	offset int
	change func(b *impl.Box)
	n      int
	want   string
}

func checkWatched(t *testing.T, list []watchCase) {
	t.Helper()
	l, start := watched(t)
	for i, v := range list {
		b := withBox(start, both(at(16896+v.offset), v.change))
		got, code := impl.BreachesOf(b, l, v.n)
		if toldBreaches(got) != v.want || code != impl.OK {
			t.Errorf("case %d, from %d: %d steps of %s break%s, %q, want%s", i, v.offset, v.n, toldBox(b), toldBreaches(got), impl.CodeWord(code), v.want)
		}
		for _, n := range []int{0, 1, 2, v.n, v.n + 3} {
			checkBreachesBy(t, b, l, n)
		}
	}
}

// stack is the change that register 4 points elsewhere.
func stack(address int) func(b *impl.Box) { return func(b *impl.Box) { b.Cpu.Regs[4] = address } }

// paged is the change that a page is there, with that Perm, in place of the one that there may be; its bytes are noughts, or nops where it may be run but not written.
func paged(base, perm int) func(b *impl.Box) {
	return func(b *impl.Box) {
		unpaged(base)(b)
		fill := "\x00"
		if perm&6 == 4 {
			fill = nop
		}
		i := 0
		for i < len(b.Memory.Pages) && b.Memory.Pages[i].Base < base {
			i++
		}
		b.Memory.Pages = slices.Insert(b.Memory.Pages, i, toldPage(base, perm, "", fill))
	}
}

func unpaged(base int) func(b *impl.Box) {
	return func(b *impl.Box) {
		b.Memory.Pages = slices.DeleteFunc(b.Memory.Pages, func(p impl.Page) bool { return p.Base == base })
	}
}

// permed is the change that a page that is there has another Perm.
func permed(base, perm int) func(b *impl.Box) {
	return func(b *impl.Box) { b.Memory.Pages[pageByHand(b.Memory, base, 0)].Perm = perm }
}

// turned is the change that the byte at an address is another one.
func turned(address int) func(b *impl.Box) {
	return func(b *impl.Box) { b.Memory = withByte(b.Memory, address) }
}

func base15(n int) func(b *impl.Box) { return func(b *impl.Box) { b.Cpu.Regs[15] = n } }

// TestNothingBroken has the watched code as it was loaded, from each of its starts.
func TestNothingBroken(t *testing.T) {
	l, b := watched(t)
	for _, start := range l.Report.Starts {
		checkBreaches(t, withBox(b, at(l.TextAt+start)), l, 3, nil)
	}
}

// TestBreachesOfAccess has kind 2: reads and writes beyond the guards, of a box that is faulted, too.
func TestBreachesOfAccess(t *testing.T) {
	checkWatched(t, []watchCase{
		{watchLoad, stack(0), 1, " 0: 2"},
		{watchLoad, stack(12287), 1, " 0: 2"},
		{watchLoad, stack(12288), 1, ""},
		{watchLoad, stack(24568), 1, ""},
		{watchLoad, stack(24569), 1, " 0: 2"},
		{watchStore, stack(24569), 1, " 0: 2"},
		{watchStore, stack(-1), 1, " 0: 2"},
		{watchStore, stack(math.MaxInt - 3), 1, " 0: 2"},
		{watchLoad, both(stack(4096), permed(4096, 2)), 1, " 0: 2"},
		{watchStore, both(stack(4096), permed(4096, 1)), 1, " 0: 2"},
		{watchPush, stack(12288), 1, " 0: 2"},
		{watchPush, stack(12296), 1, ""},
		{watchPop, stack(24576), 1, " 0: 2"},
		{watchDivide, both(stack(32768), func(b *impl.Box) { b.Cpu.Regs[2] = -1 }), 1, " 0: 2"},
		{watchDivide, stack(0), 1, " 0: 2"},
		{watchLoad, both(stack(12280), paged(12032, 3), paged(12288, 3)), 1, " 0: 2 4"},
		{watchLoad, both(stack(12281), paged(12032, 3), paged(12288, 3)), 1, " 0: 2 4"},
		{watchLoad, both(stack(12287), paged(12032, 3), paged(12288, 3)), 1, " 0: 2 4"},
	})
}

// TestBreachesOfGuards has kind 4: reads and writes beside the sandbox, of a box that is not faulted behind the step.
func TestBreachesOfGuards(t *testing.T) {
	low, high := paged(16128, 3), paged(20480, 3)
	checkWatched(t, []watchCase{
		{watchLoad, both(stack(16128), low), 2, " 0: 4"},
		{watchLoad, both(stack(16376), low), 2, " 0: 4"},
		{watchLoad, both(stack(16377), low, paged(16384, 3)), 2, " 0: 4"},
		{watchLoad, both(stack(16383), low, paged(16384, 3)), 2, " 0: 4"},
		{watchLoad, both(stack(16384), low, paged(16384, 3)), 2, ""},
		{watchLoad, both(stack(20472), high), 2, ""},
		{watchLoad, both(stack(20473), high), 2, " 0: 4"},
		{watchStore, both(stack(20479), high), 2, " 0: 4"},
		{watchStore, both(stack(20480), high), 2, " 0: 4"},
		{watchStore, both(stack(24568), paged(24320, 3)), 2, " 0: 4"},
		{watchPush, both(stack(20480), high), 2, ""},
		{watchPush, both(stack(20481), high), 2, " 0: 4"},
		{watchPush, both(stack(16384), low), 2, " 0: 4"},
		{watchPop, both(stack(20480), high), 2, " 0: 4"},
		{watchLoad, stack(4096), 2, " 0: 2 4"},
		{watchLoad, stack(32768), 2, " 0: 2 4"},
		{watchLoad, both(stack(40960), paged(40960, 1)), 2, " 0: 2 4"},
		{watchDivide, both(stack(4096), func(b *impl.Box) { b.Cpu.Regs[0], b.Cpu.Regs[2] = 1, 0 }), 2, " 0: 2 4"},
		// Faulted behind the step: a quotient that does not fit, a byte that is not there, a page that may not be read.
		{watchDivide, both(stack(20480), high), 2, ""},
		{watchLoad, both(stack(20729), high), 2, ""},
		{watchLoad, both(stack(20480), paged(20480, 2)), 2, ""},
		{watchStore, both(stack(16376), paged(16128, 1)), 2, ""},
	})
}

// TestBreachesOfWriting has kind 3: writes into pages that may be run, of a box that is not faulted behind the step.
func TestBreachesOfWriting(t *testing.T) {
	checkWatched(t, []watchCase{
		{watchStore, both(stack(17408), paged(17408, 7)), 2, " 0: 3"},
		{watchStore, both(stack(17408), paged(17408, 6)), 2, " 0: 3"},
		{watchStore, both(stack(17408), paged(17408, 3)), 2, ""},
		{watchStore, both(stack(17408), paged(17408, 2)), 2, ""},
		{watchStore, both(stack(17663), paged(17408, 3), paged(17664, 7)), 2, " 0: 3"},
		{watchStore, both(stack(17657), paged(17408, 3), paged(17664, 7)), 2, " 0: 3"},
		{watchStore, both(stack(17656), paged(17408, 3), paged(17664, 7)), 2, ""},
		{watchStore, both(stack(17657), paged(17408, 7), paged(17664, 3)), 2, " 0: 3"},
		{watchStore, both(stack(17663), paged(17408, 7), paged(17664, 3)), 2, " 0: 3"},
		{watchStore, both(stack(17664), paged(17408, 7), paged(17664, 3)), 2, ""},
		{watchPush, both(stack(17416), paged(17408, 7)), 2, " 0: 3"},
		{watchLoad, both(stack(17408), paged(17408, 7)), 2, ""},
		{watchPop, both(stack(17408), paged(17408, 7)), 2, ""},
		{watchStore, both(stack(16640), permed(16640, 6)), 2, " 0: 3"},
		{watchStore, both(stack(40960), paged(40960, 7)), 2, " 0: 2 3 4"},
		{watchStore, both(stack(20480), paged(20480, 7)), 2, " 0: 3 4"},
		{watchStore, both(stack(4096), permed(4096, 7)), 1, " 0: 2 3 4 7"},
		// Faulted behind the step: the page may not be written, or there is none for the last bytes.
		{watchStore, stack(16896), 2, ""},
		{watchStore, both(stack(17408), paged(17408, 5)), 2, ""},
		{watchStore, both(stack(17660), paged(17408, 7)), 2, ""},
		{watchStore, both(stack(17660), paged(17408, 7), paged(17664, 1)), 2, ""},
	})
}

// TestBreachesOfTheBase has kind 5: register 15 behind each step, of a box that is faulted or ends, too.
func TestBreachesOfTheBase(t *testing.T) {
	unseen := func(code string) func(b *impl.Box) {
		return both(paged(17408, 4), putsBytes(17408, code), at(17408))
	}
	checkWatched(t, []watchCase{
		{watchJump, base15(0), 4, " 0: 5 1: 5 2: 5 3: 5"},
		{watchJump, base15(16385), 1, " 0: 5"},
		{watchJump, base15(16384 + 1<<32), 1, " 0: 5"},
		{watchJump, base15(math.MinInt + 16384), 1, " 0: 5"},
		{watchJump, base15(-16384), 1, " 0: 5"},
		{watchStore + 8, base15(1), 3, " 0: 5"},
		{trampFrom(0), base15(1), 3, " 0: 5"},
		{trampFrom(4), both(base15(1), stack(20480)), 3, " 0: 5"},
		// Code that was not looked at sets it, sets it back, or faults where it would.
		{0, unseen(moving(ofReg(15), ofReg(0))), 2, " 0: 1 5 1: 1 5"},
		{0, both(base15(9), func(b *impl.Box) { b.Cpu.Regs[0] = 16384 }, unseen(moving(ofReg(15), ofReg(0)))), 2, " 0: 1 1: 1"},
		{0, both(stack(17664), unseen(encoded(single(impl.OpPop, 8, ofReg(15))))), 2, " 0: 1"},
	})
}

// TestBreachesOfTheText has kind 6: each byte of the code counts, and whether it is there, but not what may be done with it, nor what stands beside it.
func TestBreachesOfTheText(t *testing.T) {
	list := []watchCase{
		{watchJump, unpaged(17152), 2, " 0: 6 1: 6"},
		{watchJump, unpaged(16896), 2, " 0: 6"},
		{watchJump, both(unpaged(16896), unpaged(17152)), 2, " 0: 6"},
		{trampFrom(0), both(unpaged(16896), unpaged(17152)), 2, " 0: 6"},
		{watchJump, both(permed(16896, 4), permed(17152, 0)), 2, ""},
		{watchJump, permed(16896, 3), 2, ""},
		{watchJump, both(turned(16895), paged(17408, 7), turned(17408)), 2, ""},
		{watchStore, both(stack(17144), permed(16896, 7), permed(17152, 7)), 1, " 0: 3 6"},
		// What is stored is what stood there.
		{watchStore, both(stack(17144), permed(16896, 7), func(b *impl.Box) { b.Cpu.Regs[0] = littleOf([]byte(spanOf(b.Memory, 17144, 8))) }), 1, " 0: 3"},
	}
	for _, offset := range []int{0, 1, 31, 32, 255, 256, 257, 300, 510, 511} {
		list = append(list, watchCase{watchJump, turned(16896 + offset), 3, " 0: 6 1: 6 2: 6"})
	}
	checkWatched(t, list)
}

// TestBreachesBehindTheText: of l.Size bytes that are not whole pages those behind them do not count.
func TestBreachesBehindTheText(t *testing.T) {
	l, b := watched(t)
	b.Cpu.Rip = 16896 + watchJump
	for _, v := range [][2]int{{0, 32}, {0, 64}, {32, 32}, {64, 256}, {224, 64}, {256, 32}} {
		part := withLoaded(l, func(l *impl.Loaded) { l.TextAt, l.Entry, l.Size = 16896+v[0], 16896+v[0], v[1] })
		part.Report, _ = impl.Validate(spanOf(l.Memory, part.TextAt, part.Size), part.TextAt)
		if !impl.LoadedOK(part) {
			t.Fatal("a part of the code is not as loaded", v)
		}
		start := slices.Contains(part.Report.Starts, 16896+watchJump-part.TextAt)
		for offset := range 512 {
			if !sampled(offset, 512) && offset%32 != 0 && offset%32 != 31 || within(offset, watchJump, watchJump+1) {
				continue
			}
			want := ""
			switch counts := within(offset, v[0], v[0]+v[1]-1); {
			case counts && start:
				want = " 0: 6"
			case counts:
				want = " 0: 1 6"
			case !start:
				want = " 0: 1"
			}
			if got, code := impl.BreachesOf(withBox(b, turned(16896+offset)), part, 1); toldBreaches(got) != want || code != impl.OK {
				t.Errorf("%d bytes from %d, of which byte %d is turned: %s, %q, want%s", v[1], v[0], offset, toldBreaches(got), impl.CodeWord(code), want)
			}
		}
	}
}

// TestBreachesOfPrivatePages has kind 7: both pages are there behind each step, with all their bytes.
func TestBreachesOfPrivatePages(t *testing.T) {
	list := []watchCase{
		{watchJump, unpaged(4096), 2, " 0: 7 1: 7"},
		{watchJump, unpaged(32768), 2, " 0: 7 1: 7"},
		{watchJump, both(unpaged(4096), unpaged(32768)), 2, " 0: 7 1: 7"},
		{watchJump, both(permed(4096, 0), permed(32768, 7)), 2, ""},
		{watchJump, both(paged(4352, 3), paged(33024, 7)), 2, ""},
		{watchStore + 8, turned(4096), 2, " 0: 7"},
		{trampFrom(0), turned(33023), 2, " 0: 7"},
		{watchStore, stack(4096), 3, " 0: 2 4 7 1: 7"},
		{watchStore, stack(33016), 3, " 0: 2 4 7 1: 7"},
		{watchStore, both(stack(4089), paged(3840, 3)), 3, " 0: 2 4 7 1: 7"},
		// What is stored is what stood there.
		{watchStore, both(stack(4096), func(b *impl.Box) { b.Cpu.Regs[0] = littleOf([]byte(spanOf(b.Memory, 4096, 8))) }), 2, " 0: 2 4"},
	}
	for _, i := range []int{0, 1, 128, 255} {
		list = append(list, watchCase{watchJump, turned(4096 + i), 2, " 0: 7 1: 7"}, watchCase{watchJump, turned(32768 + i), 2, " 0: 7 1: 7"})
	}
	checkWatched(t, list)
}

// TestBreachesOfStarts has kind 1: Rip ahead of a step is no start and no trampoline, unless there is nothing that may be run.
func TestBreachesOfStarts(t *testing.T) {
	checkWatched(t, []watchCase{
		{watchNops, stays, 1, ""},
		{watchNops + 2, stays, 3, " 0: 1 1: 1 2: 1"},
		{watchNops + 9, stays, 3, " 0: 1"},
		{watchNops + 10, stays, 3, ""},
		{watchHalts + 1, stays, 3, " 0: 1"},
		{watchHalts + 5, stays, 3, ""},
		{watchIndex, stays, 1, ""},
		{watchIndex + 6, func(b *impl.Box) { b.Cpu.Regs[1] = 4000 }, 1, ""},
		{watchIndex + 1, stays, 1, " 0: 1"},
		// Beside the code: what may not be run, what may, what is no instruction, and what is cut off.
		{3072, stays, 2, ""},
		{3072, both(permed(19968, 7), putsBytes(19968, nop+nop)), 2, " 0: 1 1: 1"},
		{3072, both(permed(19968, 7), putsBytes(19968, "\x06")), 2, " 0: 1"},
		{512, stays, 2, ""},
		{512, paged(17408, 4), 2, " 0: 1 1: 1"},
		{767, both(paged(17408, 4), putsBytes(17663, "\x0f")), 2, " 0: 1"},
		{-1, stays, 2, " 0: 1"},
		{trampFrom(0) + 1, stays, 2, " 0: 1"},
		{trampFrom(7) - 1, stays, 2, " 0: 1"},
		{trampFrom(0) - 1, stays, 2, ""},
		{trampFrom(0) - 1, paged(16384, 4), 2, " 0: 1"},
		{trampFrom(0) - 256, paged(16384, 4), 2, " 0: 1 1: 1"},
		// A number that is a start is not where one stands.
		{-16896, stays, 1, ""},
		{-16896, paged(0, 4), 1, " 0: 1"},
		{-16896 + 96, paged(0, 4), 2, " 0: 1 1: 1"},
		{-16384 + 96, paged(512, 4), 2, " 0: 1 1: 1"},
		{16896, both(paged(33792, 4)), 2, " 0: 1 1: 1"},
		{math.MinInt, stays, 1, ""}, {math.MaxInt, stays, 1, ""}, {math.MinInt + 32, stays, 1, ""},
		// A fault of another kind where there is no start.
		{512, both(paged(17408, 4), putsBytes(17408, "\x0f\x05")), 2, " 0: 1"},
		{512, both(paged(17408, 4), putsBytes(17408, "\x50"), stack(16384)), 2, " 0: 1"},
		{512, both(paged(17408, 4), putsBytes(17408, "\xeb\x7e")), 3, " 0: 1 1: 1 2: 1"},
		{512, both(paged(17408, 4), putsBytes(17408, going(impl.OpJmp, 512, watchJump))), 3, " 0: 1"},
		{512, both(paged(17408, 4), putsBytes(17408, going(impl.OpJmp, 512, trampFrom(0)))), 3, " 0: 1"},
		{512, both(paged(17408, 4), putsBytes(17408, going(impl.OpJmp, 512, 3072))), 3, " 0: 1"},
	})
}

// TestBreachesAtTrampolines: of a step there nothing is told of accesses, nor of Rip, whatever is done; but what is so behind it is.
func TestBreachesAtTrampolines(t *testing.T) {
	reads := func(p, q int) func(b *impl.Box) {
		return func(b *impl.Box) { b.Cpu.Regs[4], b.Cpu.Regs[7], b.Cpu.Regs[6], b.Input = 20472, p, q, "some input" }
	}
	var list []watchCase
	for n := range 8 {
		back := func(b *impl.Box) { b.Cpu.Regs[4] = 20472 }
		list = append(list, watchCase{trampFrom(n), back, 1, ""}, watchCase{trampFrom(n), both(back, base15(0), turned(17000), turned(4100)), 1, " 0: 5 6 7"},
			watchCase{trampFrom(n), both(back, turned(17000)), 1, " 0: 6"}, watchCase{trampFrom(n), both(back, unpaged(32768)), 1, " 0: 7"}, watchCase{trampFrom(n), both(back, unpaged(16640)), 1, ""})
		// The way back is read where no read may be, or can't be read.
		for _, address := range []int{4096, 33016, 0, 20480, 16376, -8} {
			list = append(list, watchCase{trampFrom(n), stack(address), 1, ""})
		}
	}
	checkWatched(t, append(list, []watchCase{
		{trampFrom(1), both(reads(600, 10), permed(16896, 7)), 1, " 0: 6"},
		{trampFrom(1), both(reads(600, 0), permed(16896, 7)), 1, ""},
		{trampFrom(1), reads(600, 10), 1, ""},
		{trampFrom(1), both(reads(1024, 10), paged(17408, 7)), 1, ""},
		{trampFrom(1), both(reads(256, 10), permed(16640, 7)), 1, ""},
		{trampFrom(2), reads(512, 10), 1, ""},
		{trampFrom(3), reads(1000, 0), 1, ""},
		// It goes on where there is nothing that may be run.
		{trampFrom(4), reads(0, 0), 3, ""},
	}...))
}

// TestBreachesTogether has several kinds in one step, in their order and each once, and the same ones in several steps.
func TestBreachesTogether(t *testing.T) {
	unseen := func(code string) func(b *impl.Box) {
		return both(paged(40960, 4), putsBytes(40960, code+"\xeb\xfe"), at(40960))
	}
	store := moving(basedOn(4, 0), ofReg(0))
	checkWatched(t, []watchCase{
		{0, both(unseen(store), stack(4096), permed(4096, 7), base15(0), turned(17000)), 1, " 0: 1 2 3 4 5 6 7"},
		{0, both(unseen(store), stack(4096), permed(4096, 7), base15(0), turned(17000)), 4, " 0: 1 2 3 4 5 6 7 1: 1 5 6 7 2: 1 5 6 7 3: 1 5 6 7"},
		{0, both(unseen(store), stack(4096), permed(4096, 4), base15(0), turned(17000)), 4, " 0: 1 2 5 6"},
		{0, both(unseen("\xa4\xa4"), func(b *impl.Box) { b.Cpu.Regs[6], b.Cpu.Regs[7] = 4096, 32769 }), 3, " 0: 1 2 4 7 1: 1 2 4 7 2: 1 7"},
		{0, both(unseen("\xa4"), func(b *impl.Box) { b.Cpu.Regs[6], b.Cpu.Regs[7] = 4096, 19968 }), 2, " 0: 1 2 4 1: 1"},
		{0, both(unseen("\xa4"), func(b *impl.Box) { b.Cpu.Regs[6], b.Cpu.Regs[7] = 19968, 20480 }, paged(20480, 7)), 2, " 0: 1 3 4 1: 1"},
		{0, both(unseen("\xa4"), func(b *impl.Box) { b.Cpu.Regs[6], b.Cpu.Regs[7] = 4096, 20480 }), 2, " 0: 1 2"},
		{0, both(unseen("\x50\x58"), stack(4352)), 3, " 0: 1 2 4 7 1: 1 2 4 7 2: 1 7"},
		{watchStore, both(stack(16900), permed(16896, 7), base15(16383)), 1, " 0: 3 5 6"},
	})
}

// TestBreachesOfOtherPrograms has boxes that were loaded of another image than what they are held against.
func TestBreachesOfOtherPrograms(t *testing.T) {
	l, b := watched(t)
	for _, v := range toldRuns() {
		other, box := loadedRun(t, v)
		if got := checkBreachesBy(t, box, l, 20); len(got) == 0 {
			t.Errorf("%s breaks nothing of what is watched", v.name)
		}
		for offset := 0; offset < watchEnd; offset += 32 {
			checkBreachesBy(t, withBox(b, at(16896+offset)), other, 5)
		}
	}
	// A store that is not looked at changes a private page.
	escape, code := impl.MapImage(programOf(512, setting(0, 4096)+"\xc6\x00\x09"))
	if code != impl.OK {
		t.Fatal(code)
	}
	box, _ := impl.NewBox(escape, "", 1)
	if got := checkBreachesBy(t, box, l, 400); toldBreaches(got) != " 0: 6 1: 2 4 6 7 2: 6 7" {
		t.Errorf("the escape breaks%s", toldBreaches(got))
	}
	if _, code := impl.BreachesOf(box, escape, 1); code != impl.ErrBad {
		t.Error("what MapImage answers is no Loaded that is right", code)
	}
}

// wrongLoads are things that LoadedOK does not take, each with one thing turned.
func wrongLoads(l impl.Loaded) []impl.Loaded {
	list := []impl.Loaded{{}}
	for _, change := range []func(l *impl.Loaded){
		func(l *impl.Loaded) { l.Entry++ }, func(l *impl.Loaded) { l.Entry = 0 }, func(l *impl.Loaded) { l.Entry += l.Size }, func(l *impl.Loaded) { l.Heap++ }, func(l *impl.Loaded) { l.Heap = 256 }, func(l *impl.Loaded) { l.Heap = math.MinInt },
		func(l *impl.Loaded) { l.TextAt += 32 }, func(l *impl.Loaded) { l.TextAt = math.MaxInt }, func(l *impl.Loaded) { l.Size -= 32 }, func(l *impl.Loaded) { l.Size = 0 }, func(l *impl.Loaded) { l.Size = math.MinInt },
		func(l *impl.Loaded) { l.Report = impl.Report{} }, func(l *impl.Loaded) { l.Report.At = 1 }, func(l *impl.Loaded) { l.Report.Starts[1]++ }, func(l *impl.Loaded) { l.Report.Inner = nil }, func(l *impl.Loaded) { l.Report.Goals = append(l.Report.Goals, 0) },
		func(l *impl.Loaded) { l.Memory = impl.Memory{} }, func(l *impl.Loaded) { l.Memory = laidByHand(l.Memory, l.TextAt, "\xc3") }, func(l *impl.Loaded) { l.Memory = pagesFrom(16384, 33, 5) },
	} {
		list = append(list, withLoaded(l, change))
	}
	return list
}

// TestCodesOfBreaches: what was loaded comes first, then the box, then the number of steps; beside a code there is nothing.
func TestCodesOfBreaches(t *testing.T) {
	l, b := watched(t)
	broken := withBox(b, both(base15(0), turned(17000)))
	check := func(b impl.Box, l impl.Loaded, n, code int) {
		t.Helper()
		if got, c := impl.BreachesOf(b, l, n); len(got) != 0 || c != code {
			t.Errorf("BreachesOf(%s, %s, %d) = %v, %q, want %q", toldBox(b), toldLoaded(l), n, got, impl.CodeWord(c), impl.CodeWord(code))
		}
	}
	wrong := withBox(broken, func(b *impl.Box) { b.Seed = -1 })
	for _, l := range wrongLoads(l) {
		for _, n := range []int{0, 1, 400, -1, 401, math.MinInt} {
			check(b, l, n, impl.ErrBad)
			check(broken, l, n, impl.ErrBad)
			check(wrong, l, n, impl.ErrBad)
			check(withBox(b, func(b *impl.Box) { b.State = 2 }), l, n, impl.ErrBad)
		}
	}
	for i, other := range append(wrongBoxes(), wrong) {
		n := []int{0, 1, 400, -1, 401, math.MaxInt}[i%6]
		check(other, l, n, impl.ErrBad)
	}
	for _, n := range noFuels {
		check(b, l, n, impl.ErrRange)
		check(broken, l, n, impl.ErrRange)
		check(withBox(broken, func(b *impl.Box) { b.State = 2 }), l, n, impl.ErrRange)
	}
}

// TestNumbersOfBreaches: as many steps as RunBox makes are looked at; that they are used up is no code, and of a box that runs no more there is none.
func TestNumbersOfBreaches(t *testing.T) {
	l, b := watched(t)
	jump := withBox(b, both(at(16896+watchJump), base15(0)))
	for _, n := range fewFuels {
		want := strings.Builder{}
		for i := range n {
			want.WriteString(toldBreaches([]impl.Breach{{Step: i, Kind: 5}}))
		}
		if got, code := impl.BreachesOf(jump, l, n); toldBreaches(got) != want.String() || code != impl.OK {
			t.Errorf("%d steps break%s, %q", n, toldBreaches(got), impl.CodeWord(code))
		}
		for _, change := range []func(b *impl.Box){func(b *impl.Box) { b.State = 2 }, func(b *impl.Box) { b.State, b.Fault = 3, 1 }} {
			checkBreaches(t, withBox(jump, both(change, turned(17000), unpaged(4096))), l, n, nil)
		}
		// Four nops, and a halt.
		nops := withBox(jump, at(16896+watchNops+6))
		checkBreachesBy(t, nops, l, n)
	}
}
