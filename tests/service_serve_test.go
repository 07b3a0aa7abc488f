package tests

import (
	"math"
	"slices"
	"testing"

	"loop.example/g00664/impl"
)

// servable is a box whose services all have an answer that is not below 0.
func servable() impl.Box { return withPQ(startBox(), 1024, 5) }

// faults is the change that a box is faulted, and nothing else.
func faults(code, where int) func(b *impl.Box) {
	return func(b *impl.Box) { b.State, b.Fault, b.Where = 3, code, where }
}

// checkServed looks at what Serve makes of a box: what a change makes of it.
func checkServed(t *testing.T, b impl.Box, n int, change func(b *impl.Box)) impl.Box {
	t.Helper()
	got, code := checkServe(t, b, n)
	if want := withBox(b, change); !likeBox(got, want) || code != impl.OK {
		t.Errorf("Serve(%s, %d) = %s, %q, want %s", toldBox(b), n, toldBox(got), impl.CodeWord(code), toldBox(want))
	}
	return got
}

// TestExits: SvExit ends the box, with the lowest four bytes of register 7 with a sign, and looks at nothing else.
func TestExits(t *testing.T) {
	for p, code := range map[int]int{0: 0, 1: 1, 255: 255, -1: -1, 1<<31 - 1: 2147483647, 1 << 31: -2147483648, 1<<31 + 1: -2147483647, 1<<32 - 1: -1, 1 << 32: 0, 1<<32 + 7: 7, -1 << 31: -2147483648, -1<<31 - 1: 2147483647, math.MaxInt: -1, math.MinInt: 0, math.MinInt + 9: 9} {
		for _, stack := range []int{20472, 20480, 0, -8, -1, math.MaxInt, math.MinInt, 16640, 1536 + 16384} {
			b := withPQ(startBox(), p, -1)
			b.Cpu.Regs[4] = stack
			got := checkServed(t, b, impl.SvExit, func(b *impl.Box) { b.State, b.Code = 2, code })
			if again, c := impl.Serve(got, impl.SvExit); !likeBox(again, got) || c != impl.ErrDone {
				t.Errorf("Serve of a box that has ended: %s, %q", toldBox(again), impl.CodeWord(c))
			}
		}
	}
	checkServed(t, withBox(startBox(), func(b *impl.Box) { b.Memory.Pages = nil }), impl.SvExit, func(b *impl.Box) { b.State = 2 })
}

// stackMemory is startMemory with pages about which addresses of eight bytes may lie: two of which one cannot be read, and the last page there can be.
func stackMemory() impl.Memory {
	pages := startMemory().Pages
	return memory(slices.Concat(pages[:6], []impl.Page{page(18176, 3), page(18432, 2), page(18688, 3), page(18944, 4), page(19200, 1)}, pages[6:], []impl.Page{page(65280, 3)})...)
}

// TestStacks has register 4 at places where eight bytes are all there, and where they are not: then the box is faulted, and the service is not done.
func TestStacks(t *testing.T) {
	base := servable()
	base.Memory = stackMemory()
	const page, perm = impl.ErrPage, impl.ErrPerm
	for stack, code := range map[int]int{
		20472: 0, 20471: 0, 20473: page, 20479: page, 20480: page, 20488: page, 20224: 0, 20217: 0, 20220: 0, 19968: 0, 19967: page, 19961: page, 19960: page,
		16896: 0, 16895: perm, 16889: perm, 16888: perm, 16640: perm, 16639: page, 16384: page, 17145: 0, 17151: 0, 17152: 0, 17656: 0, 17660: 0, 17912: 0, 17913: page, 17919: page, 17920: page,
		18176: 0, 18175: page, 18424: 0, 18425: perm, 18431: perm, 18432: perm, 18681: perm, 18687: perm, 18688: 0, 18936: 0, 18937: perm, 18944: perm, 19193: perm, 19199: perm, 19200: 0, 19448: 0, 19449: page,
		4096: 0, 4344: 0, 4345: page, 4095: page, 4089: page, 32768: 0, 33017: page, 65280: 0, 65528: 0, 65529: page, 65535: page, 65536: page, 0: page,
		-1: page, -8: page, -4: page, 1 << 32: page, 1<<32 + 20472: page, -1<<32 + 20472: page, math.MinInt + 20472: page, math.MaxInt: page, math.MaxInt - 7: page, math.MaxInt - 6: page, math.MinInt: page, math.MinInt + 7: page,
	} {
		b := base
		b.Cpu.Regs[4] = stack
		for n := 1; n < 8; n++ {
			got, c := checkServe(t, b, n)
			if code != impl.OK {
				checkServed(t, b, n, faults(code, stack))
			} else if got.State != 1 || got.Cpu.Regs[4] != stack+8 || c != impl.OK {
				t.Errorf("Serve(%s, %d) = %s, %q", toldBox(b), n, toldBox(got), impl.CodeWord(c))
			}
		}
	}
}

// TestWhereItGoesOn has return addresses of all kinds: Rip is a bundle of the sandbox.
func TestWhereItGoesOn(t *testing.T) {
	for back, rip := range map[int]int{0: 16384, 1: 16384, 31: 16384, 32: 16416, 33: 16416, 575: 16928, 576: 16960, 607: 16960, 608: 16992, 4064: 20448, 4095: 20448, 4096: 16384, 4128: 16416, 16384: 16384, 16960: 16960, 16959: 16928, 20479: 20448, 20480: 16384, 32768: 16384,
		-1: 20448, -32: 20448, -33: 20416, -4096: 16384, 1 << 32: 16384, 1<<32 + 640: 17024, math.MaxInt: 20448, math.MinInt: 16384, math.MinInt + 17000: 16992} {
		b := servable()
		b.Memory = laidByHand(b.Memory, 20472, string(bytesOfNumber(back, 8)))
		for n := 1; n < 8; n++ {
			got, _ := checkServe(t, b, n)
			if got.Cpu.Rip != rip || got.State != 1 {
				t.Errorf("behind service %d the box goes on at %d, %d, want %d", n, got.Cpu.Rip, got.State, rip)
			}
		}
	}
	// Only the eight bytes there count, over the end of a page, too.
	b := servable()
	b.Cpu.Regs[4] = 20220
	b.Memory = laidByHand(b.Memory, 20219, "\xff\xe5\x0f\x00\x00\x01\x02\x03\x04\xff")
	if got, code := checkServe(t, b, impl.SvClock); got.Cpu.Rip != 20448 || got.Cpu.Regs[4] != 20228 || code != impl.OK {
		t.Error(toldBox(got), code)
	}
}

// TestAnswersInRegister: the answer is in register 0, whose upper half is 0 then, of one below 0, too.
func TestAnswersInRegister(t *testing.T) {
	for _, was := range []int{0, -1, 1 << 32, math.MinInt, math.MaxInt, 0x1234567890} {
		b := servable()
		b.Cpu.Regs[0] = was
		for n, want := range map[int]int{1: 5, 2: 5, 3: 1536, 4: 0, 5: 19564, 6: 4294967258, 7: 4294967258} {
			if got, _ := checkServe(t, b, n); got.Cpu.Regs[0] != want {
				t.Errorf("behind service %d register 0 is %d, want %d", n, got.Cpu.Regs[0], want)
			}
		}
		b = withPQ(b, -1, -1)
		b.Output = "x"
		for n, want := range map[int]int{1: 4294967282, 2: 4294967282, 3: 4294967284, 6: 4294967258} {
			if got, _ := checkServe(t, b, n); got.Cpu.Regs[0] != want {
				t.Errorf("behind service %d register 0 is %d, want %d", n, got.Cpu.Regs[0], want)
			}
		}
		b = withPQ(b, 512, 512)
		if got, _ := checkServe(t, b, impl.SvWrite); got.Cpu.Regs[0] != 4294967268 {
			t.Errorf("without space register 0 is %d", got.Cpu.Regs[0])
		}
	}
}

// TestServedBehindALoad: where to go on is loaded ahead of the service, which may lay other bytes there, or bring the page.
func TestServedBehindALoad(t *testing.T) {
	input := "\x80\x01\x00\x00\x00\x00\x00\x00\xa0\x01\x00\x00\x00\x00\x00\x00"
	b := withBox(withPQ(startBox(), 4088, 8), func(b *impl.Box) { b.Input = input })
	got := checkServed(t, b, impl.SvRead, func(b *impl.Box) {
		lays(4088, input[:8])(b)
		b.Cpu.Regs[0], b.Cpu.Regs[4], b.Cpu.Rip = 8, 20480, 16960
	})
	// The next one goes on where the first one wrote.
	got.Cpu.Regs[4] = 20472
	checkServed(t, got, impl.SvRead, func(b *impl.Box) {
		lays(4088, input[8:])(b)
		b.Cpu.Regs[0], b.Cpu.Regs[4], b.Cpu.Rip = 8, 20480, 16384+384
	})
	// A page that SvBreak would bring is not there yet.
	b = withPQ(startBox(), 256, 0)
	for _, stack := range []int{17913, 17920, 18000, 18168} {
		b.Cpu.Regs[4] = stack
		checkServed(t, b, impl.SvBreak, faults(impl.ErrPage, stack))
	}
	b.Cpu.Regs[4] = 17912
	checkServed(t, b, impl.SvBreak, func(b *impl.Box) {
		grows(1792, 1536)(b)
		b.Cpu.Regs[0], b.Cpu.Regs[4], b.Cpu.Rip = 1536, 17920, 16384
	})
	// What is written out may be the place itself.
	checkServed(t, withPQ(startBox(), 4088, 2), impl.SvWrite, func(b *impl.Box) {
		b.Output, b.Cpu.Regs[0], b.Cpu.Regs[4], b.Cpu.Rip = "\x5f\x42", 2, 20480, 16960
	})
}

// TestServedAsInARun has the services one behind the other, as a program calls them.
func TestServedAsInARun(t *testing.T) {
	l, _, _ := impl.LoadImage(startImage())
	b, code := impl.NewBox(l, "in and out", 7)
	if code != impl.OK {
		t.Fatal(code)
	}
	call := func(n, p, q, back int) {
		t.Helper()
		b.Cpu.Regs[4] -= 8
		b.Memory, _ = impl.StoreAt(b.Memory, b.Cpu.Regs[4], 8, back)
		b = withPQ(b, p, q)
		b, _ = checkServe(t, b, n)
		if b.Cpu.Rip != back || b.Cpu.Regs[4] != 20480 || b.State != impl.BxRun {
			t.Errorf("behind service %d: %s", n, toldBox(b))
		}
	}
	call(impl.SvRead, 3600, 6, 16928)
	call(impl.SvWrite, 3600, b.Cpu.Regs[0], 16960)
	call(impl.SvBreak, 256, 0, 16992)
	call(impl.SvRead, b.Cpu.Regs[0], 100, 17024)
	call(impl.SvWrite, 1536, b.Cpu.Regs[0], 17056)
	call(impl.SvClock, 0, 0, 17088)
	call(impl.SvClock, 0, 0, 17120)
	call(impl.SvRandom, 0, 0, 16896)
	call(7, 0, 0, 16928)
	if b.Output != "in and out" || b.At != 10 || b.Clock != 2 || b.Seed != 1282168116 || b.Brk != 1792 || b.Cpu.Regs[0] != 1<<32-38 {
		t.Error(toldBox(b))
	}
	b, code = impl.Serve(withPQ(b, 42, 0), impl.SvExit)
	if b.State != impl.BxExit || b.Code != 42 || code != impl.OK {
		t.Error(toldBox(b), code)
	}
}
