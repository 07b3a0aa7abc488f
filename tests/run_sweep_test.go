package tests

import (
	"math/rand"
	"strings"
	"testing"

	"loop.example/g00664/impl"
)

// A tally counts how the boxes of a sweep ended.
type tally struct {
	states, faults map[int]int
	steps, boxes   int
}

func newTally() *tally { return &tally{states: map[int]int{}, faults: map[int]int{}} }

// keep holds for P14 and P15 of what was loaded, with an input and a seed.
func (y *tally) keep(t *testing.T, l impl.Loaded, input string, seed int) {
	t.Helper()
	b, code := impl.NewBox(l, input, seed)
	if code != impl.OK {
		t.Fatalf("what was loaded has no box: %q", impl.CodeWord(code))
	}
	last, many := checkKept(t, l, b)
	y.states[last.State]++
	y.faults[last.Fault]++
	y.boxes, y.steps = y.boxes+1, y.steps+many
}

// keepDrawn holds likewise with inputs and seeds at their ends, and others.
func (y *tally) keepDrawn(t *testing.T, random *rand.Rand, im impl.Image, boxes int) {
	t.Helper()
	l, where, code := impl.LoadImage(im)
	if code != impl.OK {
		t.Fatalf("%s is refused at %d: %q", toldImage(im), where, impl.CodeWord(code))
	}
	for range boxes {
		y.keep(t, l, someData(random, someSize(random, 1024)), oneOf(random, 0, 1, 1<<31-1, random.Intn(1<<31)))
	}
}

// least looks that a sweep has had so many boxes of each of these faults, 0 for none, and so many steps of each box.
func (y *tally) least(t *testing.T, many, steps int, faults ...int) {
	t.Helper()
	for _, fault := range faults {
		if y.faults[fault] < many {
			t.Errorf("the fault %q came %d times", impl.CodeWord(fault), y.faults[fault])
		}
	}
	if y.steps < steps*y.boxes {
		t.Errorf("%d boxes have but %d steps", y.boxes, y.steps)
	}
}

// TestLivelyProgramsBreakNothing holds for P14 and P15 of programs that go on for a while.
func TestLivelyProgramsBreakNothing(t *testing.T) {
	random, plain, y := rand.New(rand.NewSource(32)), unending(plainInstrs(t)), newTally()
	for range 700 {
		y.keepDrawn(t, random, livelyImage(random, plain), 2)
	}
	y.least(t, 20, 40, impl.OK, impl.ErrPage, impl.ErrPerm, impl.ErrFetch, impl.ErrDivide, impl.ErrHalt)
	if y.states[impl.BxRun] < 50 || y.states[impl.BxExit] < 5 {
		t.Error("the boxes end so:", y.states)
	}
}

// TestDrawnProgramsBreakNothing holds likewise of programs that are drawn by the rules alone, and begin anywhere.
func TestDrawnProgramsBreakNothing(t *testing.T) {
	random, plain, y := rand.New(rand.NewSource(33)), plainInstrs(t), newTally()
	for range 500 {
		im, _ := drawnProgram(random, plain)
		y.keepDrawn(t, random, im, 1)
	}
	y.least(t, 5, 2, impl.ErrPage, impl.ErrPerm, impl.ErrFetch, impl.ErrHalt)
}

// TestBundledProgramsBreakNothing holds likewise of random bundles that the validator takes.
func TestBundledProgramsBreakNothing(t *testing.T) {
	random, words, y := rand.New(rand.NewSource(34)), bundleWords(t), newTally()
	for range 300 {
		if im, taken := bundledImage(random, words); taken {
			y.keepDrawn(t, random, im, 1)
		}
	}
	y.least(t, 3, 4, impl.ErrPage, impl.ErrPerm, impl.ErrFetch, impl.ErrDivide)
	if y.boxes < 50 {
		t.Error("so few are taken:", y.boxes)
	}
}

// TestDamagedProgramsBreakNothing holds likewise of code that was drawn and then changed, and is taken all the same.
func TestDamagedProgramsBreakNothing(t *testing.T) {
	random, plain, y := rand.New(rand.NewSource(35)), unending(plainInstrs(t)), newTally()
	for range 300 {
		d := livelyAt(random, plain, 2+random.Intn(12), 16896)
		for range 10 {
			text, _ := d.damaged()
			im := programOf(512, text)
			if _, _, code := impl.LoadImage(im); code == impl.OK {
				y.keepDrawn(t, random, im, 1)
			}
		}
	}
	y.least(t, 3, 20, impl.OK, impl.ErrPage, impl.ErrPerm, impl.ErrFetch, impl.ErrHalt)
	if y.boxes < 300 {
		t.Error("so few are taken:", y.boxes)
	}
}

// TestRefusedProgramsBreakSomething: what the validator refuses, run all the same, is not without breaches: without it the theorem would not hold.
func TestRefusedProgramsBreakSomething(t *testing.T) {
	random, words, broken := rand.New(rand.NewSource(36)), bundleWords(t), map[int]int{}
	l, _ := watched(t)
	for range 3000 {
		text := ""
		for range 12 {
			text += words[random.Intn(len(words))]
		}
		im := programOf(512, text)
		if _, _, code := impl.LoadImage(im); code == impl.OK {
			continue
		}
		mapped, _ := impl.MapImage(im)
		b, _ := impl.NewBox(mapped, "", 1)
		// Register 0 is used without a mask, and register 1 as it is.
		b.Cpu.Regs[0], b.Cpu.Regs[1] = oneOf(random, 4096, 32768, 20480, 17000), oneOf(random, -14336, 16384, 1024)
		for _, v := range checkBreachesBy(t, b, l, 40) {
			broken[v.Kind]++
		}
	}
	for _, kind := range []int{1, 2, 4, 6, 7} {
		if broken[kind] < 10 {
			t.Errorf("a breach of kind %d came %d times", kind, broken[kind])
		}
	}
}

// offered holds for P20 of bytes that are offered as an image: they are refused with a code of chapter 1, or break nothing; it answers the code.
func (y *tally) offered(t *testing.T, text, input string, seed int) int {
	t.Helper()
	l, where, code := impl.LoadElf(text)
	if code == impl.OK {
		y.keep(t, l, input, seed)
		return code
	}
	if impl.CodeWord(code) == "" || !within(code, 1, 35) || !likeLoaded(l, impl.Loaded{}) || where < 0 {
		t.Errorf("LoadElf of %d bytes = %s, %d, %d", len(text), toldLoaded(l), where, code)
	}
	return code
}

// TestBytesOfAllKinds holds for P20 of texts of programs in which bytes of the heads, and of the code, were changed, and of texts of no program.
func TestBytesOfAllKinds(t *testing.T) {
	random, plain, y, codes := rand.New(rand.NewSource(37)), unending(plainInstrs(t)), newTally(), map[int]int{}
	for range 150 {
		im := livelyImage(random, plain)
		whole, heads := planOf(im).text(), 64+56*len(im.Segments)
		for k := range 12 {
			text := []byte(whole)
			for range 1 + random.Intn(2) {
				at := random.Intn([2]int{heads, len(text)}[k%2])
				text[at] = [3]byte{text[at] ^ 1<<random.Intn(8), byte(random.Intn(256)), text[random.Intn(len(text))]}[random.Intn(3)]
			}
			switch random.Intn(12) {
			case 0:
				text = text[:random.Intn(len(text)+1)]
			case 1:
				text = append(text, text[:random.Intn(len(text))]...)
			}
			codes[y.offered(t, string(text), someData(random, random.Intn(1025)), random.Intn(1<<31))]++
		}
		y.offered(t, whole, strings.Repeat("i", 1024), 1<<31-1)
		y.offered(t, someData(random, random.Intn(2000)), "", 0)
		y.offered(t, whole[:heads]+someData(random, len(whole)-heads), "", 0)
	}
	for _, text := range append(loadTexts(), anyTexts()...) {
		codes[y.offered(t, text, "input", 1)]++
	}
	for _, code := range []int{impl.OK, impl.ErrLong, impl.ErrEnd, impl.ErrMagic, impl.ErrMany, impl.ErrPerm, impl.ErrSegment, impl.ErrText, impl.ErrEntry, impl.ErrOpcode, impl.ErrMask, impl.ErrStack, impl.ErrTarget} {
		if codes[code] < 1 {
			t.Errorf("no text has the code %q", impl.CodeWord(code))
		}
	}
	y.least(t, 10, 20, impl.OK, impl.ErrPage, impl.ErrHalt, impl.ErrFetch)
}

// TestAnyInput holds for P14 of the told programs with inputs of many lengths and seeds of all kinds.
func TestAnyInput(t *testing.T) {
	y := newTally()
	for _, v := range toldRuns() {
		l, _ := loadedRun(t, v)
		for _, size := range []int{0, 1, 5, 1023, 1024} {
			for _, seed := range []int{0, 1, 7, 65536, 1<<31 - 1} {
				y.keep(t, l, strings.Repeat("\xc3", size), seed)
			}
		}
	}
	y.least(t, 25, 10, impl.OK, impl.ErrPage, impl.ErrPerm, impl.ErrFetch, impl.ErrDivide, impl.ErrHalt)
}
