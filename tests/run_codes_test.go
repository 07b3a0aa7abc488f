package tests

import (
	"math"
	"slices"
	"testing"

	"loop.example/g00664/impl"
)

// fewFuels and noFuels are numbers of steps that may be asked for, and others.
var (
	fewFuels = []int{0, 1, 2, 399, 400}
	noFuels  = slices.Concat(farNumbers, []int{-1, -2, -400, 401, 402, 500, 4096, 1<<32 + 400, math.MinInt + 400})
)

// endedBoxes are boxes that run no more, though their Rip is where there is an instruction, or a trampoline.
func endedBoxes() []impl.Box {
	var list []impl.Box
	for _, rip := range []int{16896, 16640, 16672, 0} {
		for _, change := range []func(b *impl.Box){
			func(b *impl.Box) { b.State = 2 }, func(b *impl.Box) { b.State, b.Code = 2, -7 }, func(b *impl.Box) { b.State, b.Fault = 3, impl.ErrHalt }, func(b *impl.Box) { b.State, b.Fault, b.Where = 3, impl.ErrFetch, -1 }, func(b *impl.Box) { b.State, b.Fault = 3, impl.ErrFuel },
		} {
			list = append(list, withBox(runsFrom(startBox(), 16896, "\xeb\xfe"), both(at(rip), change)))
		}
	}
	return list
}

// checkNoRun looks that all calls answer nothing but a code of a box.
func checkNoRun(t *testing.T, b impl.Box, n, code int) {
	t.Helper()
	if got, many, c := impl.RunBox(b, n); !likeBox(got, impl.Box{}) || many != 0 || c != code {
		t.Errorf("RunBox(%s, %d) = %s, %d, %q, want %q", toldBox(b), n, toldBox(got), many, impl.CodeWord(c), impl.CodeWord(code))
	}
	if trace, c := impl.TraceBox(b, n); len(trace) != 0 || c != code {
		t.Errorf("TraceBox(%s, %d) = %v, %q, want %q", toldBox(b), n, trace, impl.CodeWord(c), impl.CodeWord(code))
	}
}

// TestRunsOfWrongBoxes: a box that is not right is told ahead of a number of steps that is not, and there is nothing beside the code.
func TestRunsOfWrongBoxes(t *testing.T) {
	for i, b := range wrongBoxes() {
		if got, told, code := impl.StepBox(b); !likeBox(got, impl.Box{}) || len(told) != 0 || code != impl.ErrBad {
			t.Errorf("StepBox(%s) = %s, %v, %q", toldBox(b), toldBox(got), told, impl.CodeWord(code))
		}
		for k, n := range slices.Concat(fewFuels, noFuels) {
			if (i+k)%4 == 0 {
				checkNoRun(t, b, n, impl.ErrBad)
			}
		}
	}
	// A box that runs no more is no more right for that.
	for _, b := range endedBoxes() {
		b.Heap = 0
		checkNoRun(t, b, 0, impl.ErrBad)
		checkNoRun(t, b, -1, impl.ErrBad)
		if _, _, code := impl.StepBox(b); code != impl.ErrBad {
			t.Errorf("StepBox(%s) has the code %q", toldBox(b), impl.CodeWord(code))
		}
	}
}

// TestNumbersOfSteps: they are from 0 to MaxFuel, of a box that runs no more, too.
func TestNumbersOfSteps(t *testing.T) {
	endless := runsFrom(startBox(), 16896, "\xeb\xfe")
	for _, b := range append(endedBoxes(), endless, servable(), withBox(endless, at(16640))) {
		for _, n := range noFuels {
			checkNoRun(t, b, n, impl.ErrRange)
		}
	}
	for n := range 401 {
		got, many, code := impl.RunBox(endless, n)
		if !likeBox(got, endless) || many != n || code != impl.ErrFuel {
			t.Errorf("RunBox of %d steps: %s, %d, %q", n, toldBox(got), many, impl.CodeWord(code))
		}
		if trace, code := impl.TraceBox(endless, n); len(trace) != n || code != impl.OK || n > 0 && (slices.Min(trace) != 16896 || slices.Max(trace) != 16896) {
			t.Errorf("TraceBox of %d steps: %v, %q", n, trace, impl.CodeWord(code))
		}
	}
}

// TestEndedBoxes: there is no step of a box that runs no more: StepBox says so, and answers it as it was; the others have no code.
func TestEndedBoxes(t *testing.T) {
	for _, b := range endedBoxes() {
		if got := checkStepBox(t, b); !likeBox(got.box, b) {
			t.Fatal("the tests' own step of a box that has ended")
		}
		for _, n := range fewFuels {
			checkRunOf(t, b, n, nil)
			if _, _, code := impl.RunBox(b, n); code != impl.OK {
				t.Errorf("RunBox(%s, %d) has the code %q", toldBox(b), n, impl.CodeWord(code))
			}
		}
	}
}

// endingWith is a box that ends with the step of that number, which may be 2 at least: nops, and then what faults, or a jump to where it exits.
func endingWith(steps, state int) impl.Box {
	last, rip := hlt, 17409-steps
	if state == impl.BxExit {
		last, rip = going(impl.OpJmp, 17408, 16640), 17410-steps
	}
	return withBox(startBox(), func(b *impl.Box) {
		b.Memory = framed(toldPage(16896, 5, "", nop), toldPage(17152, 5, "", nop), toldPage(17408, 4, last, nop))
		b.Cpu.Rip = rip
	})
}

// TestFuelThatIsUsedUp: a box that ends with its last step has no ErrFuel; one that would end with the next one has, and is answered all the same.
func TestFuelThatIsUsedUp(t *testing.T) {
	for _, state := range []int{impl.BxFault, impl.BxExit} {
		for _, ends := range []int{2, 3, 10, 100, 398, 399, 400, 401} {
			b := endingWith(ends, state)
			for n := ends - 2; n <= min(ends+2, 400); n++ {
				got, many, code := impl.RunBox(b, n)
				if n < ends && (got.State != impl.BxRun || many != n || code != impl.ErrFuel) || n >= ends && (got.State != state || many != ends || code != impl.OK) {
					t.Errorf("%d steps, where the box ends with %d: %s, %d, %q", n, ends, toldBox(got), many, impl.CodeWord(code))
				}
				checkRunOf(t, b, n, stepsByHand(b, n))
			}
		}
	}
}
