package tests

import (
	"math"
	"slices"
	"strings"
	"testing"

	"loop.example/g00664/impl"
)

// startImage has code, data that are read alone, and data: its Heap is 1536.
func startImage() impl.Image {
	return withSegment(withSegment(programOf(512, hlt), dataSegment(4, 768, 5, "const")), dataSegment(6, 1024, 300, "data"))
}

// startMemory is what startImage is in memory, and where it goes on behind a service: at 16960.
func startMemory() impl.Memory {
	m := framed(toldPage(16896, 5, "", hlt), toldPage(17152, 1, "const", "\x00"), toldPage(17408, 3, "data", "\x00"), toldPage(17664, 3, "", "\x00"))
	return laidByHand(m, 20472, "\x5f\x42\x00\x00\x00\x00\x00\x01")
}

// startBox is a box of startImage, behind the call of a trampoline.
func startBox() impl.Box {
	b := impl.Box{Memory: startMemory(), Heap: 1536, Brk: 1536, Input: "hello, world", Seed: 7, State: 1}
	for i := range b.Cpu.Regs {
		b.Cpu.Regs[i] = 1000*i - 1<<40
	}
	b.Cpu.Regs[4], b.Cpu.Regs[5], b.Cpu.Regs[6], b.Cpu.Regs[7], b.Cpu.Regs[15] = 20472, 20480, 0, 0, 16384
	b.Cpu.Rip, b.Cpu.Flags = 16672, impl.FlC+impl.FlZ
	return b
}

// withBox is a box with one thing changed, in pages of its own.
func withBox(b impl.Box, change func(b *impl.Box)) impl.Box {
	b.Memory.Pages = slices.Clone(b.Memory.Pages)
	change(&b)
	return b
}

// newBoxByHand is the box that runs what was loaded.
func newBoxByHand(l impl.Loaded, input string, seed int) impl.Box {
	b := impl.Box{Memory: l.Memory, Heap: l.Heap, Brk: l.Heap, Input: input, Seed: seed, State: 1}
	b.Cpu.Rip, b.Cpu.Regs[4], b.Cpu.Regs[5], b.Cpu.Regs[15] = l.Entry, 20480, 20480, 16384
	return b
}

// checkNewBox looks at what NewBox makes: the box by hand, or a code and nothing.
func checkNewBox(t *testing.T, l impl.Loaded, input string, seed, code int) {
	t.Helper()
	var want impl.Box
	if code == impl.OK {
		want = newBoxByHand(l, input, seed)
	}
	got, c := impl.NewBox(l, input, seed)
	if !likeBox(got, want) || c != code {
		t.Errorf("NewBox(%s, %d bytes, %d) = %s, %q, want %s, %q", toldLoaded(l), len(input), seed, toldBox(got), impl.CodeWord(c), toldBox(want), impl.CodeWord(code))
	}
	checkBoxOK(t, got, code == impl.OK)
}

func TestServiceLimits(t *testing.T) {
	if impl.MaxInput != 1024 || impl.MaxOutput != 512 || impl.MaxClock != 1000000 || impl.BxRun != 1 || impl.BxExit != 2 || impl.BxFault != 3 {
		t.Error(impl.MaxInput, impl.MaxOutput, impl.MaxClock, impl.BxRun, impl.BxExit, impl.BxFault)
	}
	if impl.SvExit != 0 || impl.SvRead != 1 || impl.SvWrite != 2 || impl.SvBreak != 3 || impl.SvClock != 4 || impl.SvRandom != 5 {
		t.Error(impl.SvExit, impl.SvRead, impl.SvWrite, impl.SvBreak, impl.SvClock, impl.SvRandom)
	}
	if impl.NoAccess != -14 || impl.NoMemory != -12 || impl.NoSpace != -28 || impl.NoService != -38 {
		t.Error(impl.NoAccess, impl.NoMemory, impl.NoSpace, impl.NoService)
	}
}

// TestNewBox has boxes of what LoadImage and MapImage answer.
func TestNewBox(t *testing.T) {
	for _, v := range toldLoads() {
		for _, seed := range []int{0, 1, 7, 2147483647} {
			loaded, _, _ := impl.LoadImage(v.image)
			mapped, _ := impl.MapImage(v.image)
			checkNewBox(t, v.loaded, "input", seed, impl.OK)
			for _, l := range []impl.Loaded{loaded, mapped} {
				if b, code := impl.NewBox(l, "input", seed); !likeBox(b, newBoxByHand(v.loaded, "input", seed)) || code != impl.OK {
					t.Errorf("NewBox of %s: %s, %q", toldImage(v.image), toldBox(b), impl.CodeWord(code))
				}
			}
		}
	}
	// What the code does is not asked.
	l, _ := impl.MapImage(programOf(1024, "\xc3"))
	b, code := impl.NewBox(l, "", 3)
	want := impl.Box{Cpu: impl.Cpu{Rip: 17408}, Memory: framed(toldPage(17408, 5, "\xc3", hlt)), Heap: 1280, Brk: 1280, Seed: 3, State: impl.BxRun}
	want.Cpu.Regs = [16]int{4: 20480, 5: 20480, 15: 16384}
	if !likeBox(b, want) || code != impl.OK {
		t.Errorf("NewBox = %s, %q, want %s", toldBox(b), impl.CodeWord(code), toldBox(want))
	}
}

// TestInputsOfBoxes has inputs of many lengths: MaxInput bytes, one more, MaxText, and more, which is told ahead of all else.
func TestInputsOfBoxes(t *testing.T) {
	l := toldLoads()[1].loaded
	wrong := withLoaded(l, func(l *impl.Loaded) { l.Heap = 0 })
	codes := map[int]int{0: impl.OK, 1: impl.OK, 512: impl.OK, 1023: impl.OK, 1024: impl.OK, 1025: impl.ErrSize, 2048: impl.ErrSize, 65535: impl.ErrSize, 65536: impl.ErrSize, 65537: impl.ErrLong, 131072: impl.ErrLong}
	for size, code := range codes {
		input := strings.Repeat("\x00\xff", size/2) + strings.Repeat("x", size%2)
		checkNewBox(t, l, input, 1, code)
		later := func(other int) int {
			if code == impl.ErrLong {
				return impl.ErrLong
			}
			return other
		}
		checkNewBox(t, wrong, input, 1, later(impl.ErrBad))
		checkNewBox(t, wrong, input, -1, later(impl.ErrBad))
		checkNewBox(t, impl.Loaded{}, input, -1, later(impl.ErrBad))
		if code == impl.OK {
			code = impl.ErrRange
		}
		checkNewBox(t, l, input, -1, code)
		checkNewBox(t, l, input, 1<<31, code)
	}
}

func TestSeedsOfBoxes(t *testing.T) {
	l := toldLoads()[0].loaded
	for _, seed := range []int{0, 1, 2, 65536, 1<<30 - 1, 2147483646, 2147483647} {
		checkNewBox(t, l, "x", seed, impl.OK)
	}
	for _, seed := range slices.Concat(farNumbers, []int{-1, -2, -2147483648, 2147483648, 2147483649, 4294967295, 1<<32 + 7}) {
		checkNewBox(t, l, "x", seed, impl.ErrRange)
	}
}

// TestLoadsOfBoxes: of what was loaded Heap is asked, which may be no multiple of PageSize, and that memory is right, and no more.
func TestLoadsOfBoxes(t *testing.T) {
	l := toldLoads()[2].loaded
	for _, heap := range slices.Concat([]int{512, 513, 600, 767, 768, 1536, 3328, 3583, 3584}) {
		checkNewBox(t, withLoaded(l, func(l *impl.Loaded) { l.Heap = heap }), "x", 1, impl.OK)
	}
	for _, heap := range slices.Concat(farNumbers, []int{0, -1, 1, 256, 511, 3585, 3840, 4096, 16896, 17152, 1<<32 + 512}) {
		checkNewBox(t, withLoaded(l, func(l *impl.Loaded) { l.Heap = heap }), "x", 1, impl.ErrBad)
	}
	for _, n := range slices.Concat(farNumbers, anyNumbers, []int{512, 16896, 16897, l.Entry + 1}) {
		for _, other := range []impl.Loaded{
			withLoaded(l, func(l *impl.Loaded) { l.Entry = n }), withLoaded(l, func(l *impl.Loaded) { l.TextAt = n }), withLoaded(l, func(l *impl.Loaded) { l.Size = n }),
			withLoaded(l, func(l *impl.Loaded) { l.Report.At = n }), withLoaded(l, func(l *impl.Loaded) { l.Report.Starts = make([]int, 5000) }), withLoaded(l, func(l *impl.Loaded) { l.Report = impl.Report{} }),
		} {
			checkNewBox(t, other, "x", 1, impl.OK)
		}
	}
	for _, m := range rightMemories() {
		checkNewBox(t, impl.Loaded{Memory: m, Heap: 512}, "x", 1, impl.OK)
		checkNewBox(t, impl.Loaded{Memory: m}, "x", 1, impl.ErrBad)
	}
	for _, m := range slices.Concat(wrongMemories(), wrongLoadedMemories(l.Memory)) {
		wrong := withLoaded(l, func(l *impl.Loaded) { l.Memory = m })
		checkNewBox(t, wrong, "x", 1, impl.ErrBad)
		checkNewBox(t, wrong, strings.Repeat("x", 1025), -1, impl.ErrBad)
	}
}

// otherBoxes are boxes that are right, each like startBox but in one thing.
func otherBoxes() []impl.Box {
	var list []impl.Box
	change := func(change func(b *impl.Box)) { list = append(list, withBox(startBox(), change)) }
	for i := range 16 {
		change(func(b *impl.Box) { b.Cpu.Regs[i]++ })
		change(func(b *impl.Box) { b.Cpu.Regs[i] ^= math.MinInt })
	}
	for _, n := range []int{0, -1, 16673, math.MinInt, math.MaxInt} {
		change(func(b *impl.Box) { b.Cpu.Rip = n })
		change(func(b *impl.Box) { b.State, b.Fault, b.Where = 3, 13, n })
	}
	for _, n := range []int{512, 1280, 1535} {
		change(func(b *impl.Box) { b.Heap = n })
	}
	for _, n := range []int{1537, 1792, 3584} {
		change(func(b *impl.Box) { b.Brk = n })
	}
	for _, n := range []int{-2147483648, -1, 0, 1, 2147483647} {
		change(func(b *impl.Box) { b.State, b.Code = 2, n })
	}
	for _, n := range []int{1, 2, 35} {
		change(func(b *impl.Box) { b.State, b.Fault = 3, n })
		change(func(b *impl.Box) { b.Cpu.Flags = []int{0, 1, 4 + 64 + 128 + 2048}[n%3] })
	}
	for _, text := range []string{"hello, worlD", "hello, world ", "hello", ""} {
		change(func(b *impl.Box) { b.Input = text })
		change(func(b *impl.Box) { b.Output = text + "x" })
	}
	change(func(b *impl.Box) { b.At = 1 })
	change(func(b *impl.Box) { b.At = 12 })
	change(func(b *impl.Box) { b.Clock = 1 })
	change(func(b *impl.Box) { b.Seed = 8 })
	for k := range startMemory().Pages {
		change(func(b *impl.Box) { b.Memory.Pages[k].Perm = 0 })
		change(func(b *impl.Box) { b.Memory = withByte(b.Memory, b.Memory.Pages[k].Base+k) })
		change(func(b *impl.Box) { b.Memory.Pages = slices.Delete(b.Memory.Pages, k, k+1) })
	}
	change(func(b *impl.Box) { b.Memory.Pages = append(b.Memory.Pages, page(65280, 3)) })
	change(func(b *impl.Box) { b.Memory.Pages = nil })
	return list
}

// wrongBoxes are boxes that are not right, each in one thing.
func wrongBoxes() []impl.Box {
	list := []impl.Box{{}}
	change := func(change func(b *impl.Box)) { list = append(list, withBox(startBox(), change)) }
	for _, c := range wrongCpus() {
		change(func(b *impl.Box) { b.Cpu.Flags = c.Flags })
	}
	for _, m := range slices.Concat(wrongMemories(), wrongLoadedMemories(startMemory())) {
		change(func(b *impl.Box) { b.Memory = m })
	}
	for _, n := range slices.Concat(farNumbers, []int{-1, 1000001, 1<<32 + 1536}) {
		for _, field := range []func(b *impl.Box) *int{
			func(b *impl.Box) *int { return &b.Heap }, func(b *impl.Box) *int { return &b.Brk }, func(b *impl.Box) *int { return &b.At }, func(b *impl.Box) *int { return &b.Clock }, func(b *impl.Box) *int { return &b.State },
			func(b *impl.Box) *int { return &b.Code }, func(b *impl.Box) *int { return &b.Fault }, func(b *impl.Box) *int { return &b.Where },
		} {
			change(func(b *impl.Box) { *field(b) = n })
		}
		change(func(b *impl.Box) { b.State, b.Fault = 3, n })
		change(func(b *impl.Box) { b.State, b.Code, b.Fault = 3, n, 1 })
	}
	for _, size := range []int{1025, 65536, 65537} {
		change(func(b *impl.Box) { b.Input = strings.Repeat("x", size) })
		change(func(b *impl.Box) { b.Output = strings.Repeat("x", size-512) })
	}
	change(func(b *impl.Box) { b.At = 13 })
	change(func(b *impl.Box) { b.Heap = 1537 })
	change(func(b *impl.Box) { b.Brk = 1535 })
	change(func(b *impl.Box) { b.Seed = -1 })
	change(func(b *impl.Box) { b.Seed = 1 << 31 })
	return list
}
