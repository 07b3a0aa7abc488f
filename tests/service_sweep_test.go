package tests

import (
	"math"
	"math/rand"
	"slices"
	"testing"

	"loop.example/g00664/impl"
)

// oneOf is one of some numbers.
func oneOf(random *rand.Rand, list ...int) int { return list[random.Intn(len(list))] }

// drawnPages are pages in the sandbox, most of which may be read and written, and elsewhere; now and then there are MaxPages of them, or one fewer.
func drawnPages(random *rand.Rand) impl.Memory {
	var m impl.Memory
	add := func(base, perm int) {
		m.Pages = append(m.Pages, impl.Page{Base: base, Perm: perm, Data: someData(random, 256)})
	}
	add(4096, 3)
	chance := 1 + random.Intn(4)
	for base := 16384; base < 20480; base += 256 {
		if random.Intn(5) >= chance {
			continue
		}
		add(base, oneOf(random, 3, 3, 3, 7, random.Intn(8)))
	}
	many := oneOf(random, len(m.Pages), len(m.Pages), 30, 31, 32)
	for base := 24576; len(m.Pages) < many; base += 256 {
		add(base, random.Intn(8))
	}
	return m
}

// drawnRegister is a number about the ends of the sandbox's pages, with anything in its upper half.
func drawnRegister(random *rand.Rand) int {
	n := 256*random.Intn(18) + oneOf(random, -257, -9, -8, -1, 0, 1, 7, 100, 255) - 256
	switch random.Intn(8) {
	case 0:
		return n + random.Intn(1<<31)<<32
	case 1:
		return n ^ math.MinInt
	case 2:
		return oneOf(random, -1, -8, math.MaxInt, math.MinInt, 1<<31, 1<<31-1, 1<<32-1, 16384, 17408)
	}
	return n
}

// drawnBox is a box that is right; of eight one runs no more.
func drawnBox(random *rand.Rand) impl.Box {
	b := impl.Box{Memory: drawnPages(random), Heap: oneOf(random, 512, 1536, 3584, 256*(2+random.Intn(13)), 512+random.Intn(3073)), State: 1}
	b.Brk = oneOf(random, b.Heap, 3584, b.Heap+random.Intn(3585-b.Heap))
	b.Input = someData(random, someSize(random, 1024))
	b.At = someSize(random, len(b.Input))
	b.Output = someData(random, oneOf(random, 0, 1, 256, 500, 511, 512, random.Intn(513)))
	b.Clock = oneOf(random, 0, 1, 999998, 999999, 1000000, random.Intn(1000001))
	b.Seed = oneOf(random, 0, 1, math.MaxInt32, math.MaxInt32-1, random.Intn(1<<31))
	b.Cpu.Rip, b.Cpu.Flags = drawnRegister(random), flagSums()[random.Intn(32)]
	for i := range b.Cpu.Regs {
		b.Cpu.Regs[i] = drawnRegister(random)
	}
	page := b.Memory.Pages[random.Intn(len(b.Memory.Pages))]
	b.Cpu.Regs[4] = page.Base + oneOf(random, 0, 8, 100, 248, 248, 249, 255, -1, -8)
	b.Cpu.Regs[15] = oneOf(random, 16384, 16384, 16384, b.Cpu.Regs[15])
	b.Cpu.Regs[6] = oneOf(random, 0, 1, 8, 12, 255, 256, 257, 512, 513, random.Intn(600), b.Cpu.Regs[6])
	if random.Intn(2) == 0 {
		// A step from one Brk to another.
		b.Cpu.Regs[7] = oneOf(random, b.Heap, 3584, b.Heap+random.Intn(3585-b.Heap), 256*random.Intn(15)) - b.Brk
	}
	switch random.Intn(16) {
	case 0:
		b.State, b.Code = 2, oneOf(random, 0, -1, math.MaxInt32, math.MinInt32)
	case 1:
		b.State, b.Fault, b.Where = 3, 1+random.Intn(35), drawnRegister(random)
	}
	return b
}

// scrambled is a memory whose bytes are other ones, but for those of spans that stay: each is an address, and how many.
func scrambled(m impl.Memory, spans ...[2]int) impl.Memory {
	return withPages(m, func(pages []impl.Page) []impl.Page {
		for k, p := range pages {
			data := []byte(p.Data)
			for i := range data {
				if !slices.ContainsFunc(spans, func(s [2]int) bool { return s[0] <= p.Base+i && p.Base+i-s[0] < s[1] }) {
					data[i] ^= 0x5a
				}
			}
			pages[k].Data = string(data)
		}
		return pages
	})
}

// checkUntouched looks that a service has written nothing but the bytes of a span, and has brought no page but one of the sandbox.
func checkUntouched(t *testing.T, before, after impl.Memory, n, p, q int) {
	t.Helper()
	for _, page := range after.Pages {
		at := pageByHand(before, page.Base, 0)
		if at < 0 {
			if n != impl.SvBreak || impl.ZoneOf(page.Base) != impl.ZnSandbox || page.Perm != 3 {
				t.Errorf("service %d has brought the page %d", n, page.Base)
			}
			continue
		}
		was := before.Pages[at]
		for i := range 256 {
			if page.Data[i] != was.Data[i] && (n != impl.SvRead || page.Perm&2 == 0 || !within(page.Base+i-16384, p, p+q-1)) {
				t.Fatalf("service %d of %d bytes at %d has written at %d", n, q, p, page.Base+i-16384)
			}
		}
		if page.Perm != was.Perm {
			t.Errorf("service %d has changed a Perm", n)
		}
	}
	if len(after.Pages) < len(before.Pages) {
		t.Errorf("service %d has taken pages away", n)
	}
}

// checkService12 holds for P12 of one service of a box that runs, and tells its answer.
func checkService12(t *testing.T, b impl.Box, n int) int {
	t.Helper()
	p, q := lowest(b.Cpu.Regs[7]), lowest(b.Cpu.Regs[6])
	stays := [][2]int{{b.Cpu.Regs[4], 8}}
	if spanByHand(b.Memory, p, q, 3) {
		stays = append(stays, [2]int{16384 + p, q})
	}
	got, answer, _ := checkAnswer(t, b, n)
	if answer < 0 && !impl.SameBox(got, b) {
		t.Errorf("Answer(%s, %d) is %d and has changed something: %s", toldBox(b), n, answer, toldBox(got))
	}
	checkUntouched(t, b.Memory, got.Memory, n, p, q)
	other := b
	other.Memory = scrambled(b.Memory, stays...)
	if elsewhere, a, _ := impl.Answer(other, n); a != answer || boxFields(elsewhere) != boxFields(got) {
		t.Errorf("Answer(%s, %d) hangs on bytes elsewhere", toldBox(b), n)
	}
	served, code := checkServe(t, b, n)
	if code != impl.OK || served.Cpu.Regs[15] != b.Cpu.Regs[15] {
		t.Errorf("Serve(%s, %d) = %s, %d", toldBox(b), n, toldBox(served), code)
	}
	if served.State == impl.BxRun && (served.Cpu.Rip%impl.Bundle != 0 || impl.ZoneOf(served.Cpu.Rip) != impl.ZnSandbox || !alike(served.Memory, got.Memory)) {
		t.Errorf("Serve(%s, %d) comes back to %s", toldBox(b), n, toldBox(served))
	}
	if served.State == impl.BxFault && !alike(served.Memory, b.Memory) {
		t.Errorf("Serve(%s, %d) is faulted and has done something", toldBox(b), n)
	}
	if elsewhere, _ := impl.Serve(other, n); boxFields(elsewhere) != boxFields(served) {
		t.Errorf("Serve(%s, %d) hangs on bytes elsewhere", toldBox(b), n)
	}
	return answer
}

// TestServicesOfDrawnBoxes holds for P12, of each service and of boxes of all kinds.
func TestServicesOfDrawnBoxes(t *testing.T) {
	random := rand.New(rand.NewSource(21))
	var answers [8]map[int]int
	for n := range answers {
		answers[n] = map[int]int{}
	}
	for range 3000 {
		b := drawnBox(random)
		kept := withBox(b, stays)
		for n := range 8 {
			if n == 0 || b.State != 1 {
				checkAnswer(t, b, n)
				checkServe(t, b, n)
				continue
			}
			answers[n][min(checkService12(t, b, n), 2)]++
		}
		checkAnswer(t, b, oneOf(random, -1, 8, math.MinInt, math.MaxInt))
		if !likeBox(b, kept) {
			t.Fatal("a box is changed")
		}
	}
	for n, kinds := range [][]int{1: {-14, 0, 1, 2}, 2: {-14, -28, 0, 1, 2}, 3: {-12, 2}, 4: {0, 1, 2}, 5: {2}, 6: {-38}, 7: {-38}} {
		for _, answer := range kinds {
			if answers[n][answer] < 50 {
				t.Errorf("service %d has answered %d so many times: %d", n, answer, answers[n][answer])
			}
		}
	}
}

// TestServicesOfDrawnPrograms holds for P12 of boxes whose programs were loaded, service upon service.
func TestServicesOfDrawnPrograms(t *testing.T) {
	random, plain := rand.New(rand.NewSource(22)), plainInstrs(t)
	for range 100 {
		im, _ := drawnProgram(random, plain)
		l, _, code := impl.LoadImage(im)
		if code != impl.OK {
			t.Fatal("what was drawn is not taken", code)
		}
		b, code := impl.NewBox(l, someData(random, someSize(random, 1024)), random.Intn(1<<31))
		checkBoxOK(t, b, true)
		for range 20 {
			b.Cpu.Regs[7], b.Cpu.Regs[6] = oneOf(random, 3584, 4000, 1024, drawnRegister(random)), oneOf(random, 0, 5, 40, 512, drawnRegister(random))
			b.Cpu.Regs[4] = oneOf(random, 20472, 20400, 19968)
			n := 1 + random.Intn(7)
			checkService12(t, b, n)
			b, code = impl.Serve(b, n)
			if yes, c := impl.PrivateOK(b.Memory); code != impl.OK || !yes || c != impl.OK || b.State != impl.BxRun {
				t.Errorf("behind service %d: %s, %d", n, toldBox(b), code)
			}
			if !alike(impl.Memory{Pages: runPages(b.Memory)}, impl.Memory{Pages: runPages(l.Memory)}) {
				t.Errorf("service %d has changed what may be run: %s", n, toldBox(b))
			}
		}
	}
}

// runPages are the pages that may be run.
func runPages(m impl.Memory) []impl.Page {
	return slices.DeleteFunc(slices.Clone(m.Pages), func(p impl.Page) bool { return p.Perm&impl.PermRun == 0 })
}

// changedBox is a box with one number or text changed; it may be right all the same.
func changedBox(random *rand.Rand, b impl.Box) impl.Box {
	b.Memory.Pages = slices.Clone(b.Memory.Pages)
	fields := []*int{&b.Heap, &b.Brk, &b.At, &b.Clock, &b.Seed, &b.State, &b.Code, &b.Fault, &b.Where, &b.Cpu.Flags, &b.Cpu.Rip, &b.Cpu.Regs[random.Intn(16)]}
	switch k := random.Intn(len(fields) + 3); k {
	case len(fields):
		b.Memory.Pages = changePages(random, b.Memory.Pages)
	case len(fields) + 1:
		b.Input = someData(random, oneOf(random, 0, 1023, 1024, 1025))
	case len(fields) + 2:
		b.Output = someData(random, oneOf(random, 0, 511, 512, 513))
	default:
		*fields[k] = oneOf(random, *fields[k]+1, *fields[k]-1, -*fields[k], 0, someNumber(random, *fields[k]))
	}
	return b
}

// TestChangedBoxes holds BoxOK and SameBox of boxes that were drawn and then changed against the tests' own, and the services of what is right then.
func TestChangedBoxes(t *testing.T) {
	random := rand.New(rand.NewSource(23))
	counts := map[bool]int{}
	for range 500 {
		b := drawnBox(random)
		for range 12 {
			changed := changedBox(random, b)
			right := boxRight(changed)
			checkBoxOK(t, changed, right)
			counts[right]++
			want := right && likeBox(b, changed)
			if impl.SameBox(b, changed) != want || impl.SameBox(changed, b) != want {
				t.Errorf("SameBox(%s, %s) = %v", toldBox(b), toldBox(changed), !want)
			}
			n := random.Intn(10) - 1
			checkAnswer(t, changed, n)
			checkServe(t, changed, n)
		}
	}
	if counts[true] < 1000 || counts[false] < 1000 {
		t.Error("the boxes are one-sided:", counts)
	}
}
