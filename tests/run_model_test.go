package tests

import (
	"fmt"
	"slices"
	"testing"

	"loop.example/g00664/impl"
)

// A stepped is one step: Rip ahead of it, the box behind it, and the accesses that are told.
type stepped struct {
	rip  int
	box  impl.Box
	told []impl.Access
}

// trampByHand is the number of the trampoline that begins at an address.
func trampByHand(address int) (int, bool) {
	n := slices.Index([]int{16640, 16672, 16704, 16736, 16768, 16800, 16832, 16864}, address)
	return n, n >= 0
}

// stepByHand is one step of a box that is right and runs.
func stepByHand(b impl.Box) stepped {
	if n, is := trampByHand(b.Cpu.Rip); is {
		then, _ := serveModel(b, n)
		return stepped{b.Cpu.Rip, then, nil}
	}
	got, then := stepModel(b.Cpu, b.Memory), b
	then.Cpu, then.Memory = got.cpu, got.memory
	if got.code != impl.OK {
		then.State, then.Fault, then.Where = 3, got.code, b.Cpu.Rip
	}
	if got.code == impl.ErrPage || got.code == impl.ErrPerm {
		then.Where = got.told[len(got.told)-1].Address
	}
	return stepped{b.Cpu.Rip, then, got.told}
}

// stepsByHand are n steps of a box that is right, or as many as there are.
func stepsByHand(b impl.Box, n int) []stepped {
	var list []stepped
	for len(list) < n && b.State == 1 {
		list = append(list, stepByHand(b))
		b = list[len(list)-1].box
	}
	return list
}

// lastOf is the box behind the steps of a box, and RunBox's code of it.
func lastOf(b impl.Box, steps []stepped) (impl.Box, int) {
	if len(steps) > 0 {
		b = steps[len(steps)-1].box
	}
	if b.State == 1 {
		return b, impl.ErrFuel
	}
	return b, impl.OK
}

func ripsOf(steps []stepped) []int {
	var list []int
	for _, s := range steps {
		list = append(list, s.rip)
	}
	return list
}

// spanOf is the bytes that are there of so many from an address on, whatever may be done with them.
func spanOf(m impl.Memory, at, size int) string {
	var there []byte
	for _, p := range m.Pages {
		low, high := max(at, p.Base), min(at+size, p.Base+256)
		if low < high {
			there = append(there, p.Data[low-p.Base:high-p.Base]...)
		}
	}
	return string(there)
}

// accessWords tells what the bytes of a step's reads and writes are like.
func accessWords(s stepped) map[string]bool {
	is := map[string]bool{}
	for _, a := range s.told {
		for i := range a.Size {
			address := around(a.Address, i)
			at := pageByHand(s.box.Memory, address, 0)
			switch {
			case a.Kind == 3:
				continue
			case !within(address, 12288, 24575):
				is["beyond guards"] = true
			}
			is["beside sandbox"] = is["beside sandbox"] || !within(address, 16384, 20479)
			is["written code"] = is["written code"] || a.Kind == 2 && at >= 0 && s.box.Memory.Pages[at].Perm >= 4
		}
	}
	return is
}

// kindsBroken are the breaches of one step of a box that is to run what was loaded.
func kindsBroken(l impl.Loaded, s stepped) []int {
	_, known := trampByHand(s.rip)
	for _, start := range l.Report.Starts {
		known = known || s.rip == l.TextAt+start
	}
	faulted, words := s.box.State == 3, accessWords(s)
	private := spanOf(framed(), 4096, 256)
	var list []int
	for i, broken := range []bool{
		!known && !(faulted && s.box.Fault == impl.ErrFetch),
		words["beyond guards"],
		!faulted && words["written code"],
		!faulted && words["beside sandbox"],
		s.box.Cpu.Regs[15] != 16384,
		spanOf(s.box.Memory, l.TextAt, l.Size) != spanOf(l.Memory, l.TextAt, l.Size),
		spanOf(s.box.Memory, 4096, 256) != private || spanOf(s.box.Memory, 32768, 256) != private,
	} {
		if broken {
			list = append(list, i+1)
		}
	}
	return list
}

func breachesByHand(l impl.Loaded, steps []stepped) []impl.Breach {
	var list []impl.Breach
	for i, s := range steps {
		for _, kind := range kindsBroken(l, s) {
			list = append(list, impl.Breach{Step: i, Kind: kind})
		}
	}
	return list
}

// checkStepBox holds StepBox of a box that is right against the tests' own.
func checkStepBox(t *testing.T, b impl.Box) stepped {
	t.Helper()
	want, code := stepped{b.Cpu.Rip, b, nil}, impl.ErrDone
	if b.State == 1 {
		want, code = stepByHand(b), impl.OK
	}
	got, told, c := impl.StepBox(b)
	if !likeBox(got, want.box) || !slices.Equal(told, want.told) || c != code {
		t.Fatalf("StepBox(%s) = %s, %v, %q, want %s, %v, %q", toldBox(b), toldBox(got), told, impl.CodeWord(c), toldBox(want.box), want.told, impl.CodeWord(code))
	}
	return want
}

// checkRunOf looks at RunBox and TraceBox of n steps of a box that is right, told the steps.
func checkRunOf(t *testing.T, b impl.Box, n int, steps []stepped) {
	t.Helper()
	want, code := lastOf(b, steps)
	got, many, c := impl.RunBox(b, n)
	if !likeBox(got, want) || many != len(steps) || c != code {
		t.Fatalf("RunBox(%s, %d) = %s, %d, %q, want %s, %d, %q", toldBox(b), n, toldBox(got), many, impl.CodeWord(c), toldBox(want), len(steps), impl.CodeWord(code))
	}
	if trace, c := impl.TraceBox(b, n); !slices.Equal(trace, ripsOf(steps)) || c != impl.OK {
		t.Fatalf("TraceBox(%s, %d) = %v, %q, want %v", toldBox(b), n, trace, impl.CodeWord(c), ripsOf(steps))
	}
}

// checkRunBox holds RunBox, TraceBox and each StepBox of a box that is right against the tests' own, and tells the steps.
func checkRunBox(t *testing.T, b impl.Box, n int) []stepped {
	t.Helper()
	steps := stepsByHand(b, n)
	checkRunOf(t, b, n, steps)
	for _, s := range steps {
		if got := checkStepBox(t, b); got.rip != s.rip {
			t.Fatal("the tests' own steps differ")
		}
		b = s.box
	}
	return steps
}

// checkHalves holds for P13 of one box: a run of first and then of rest steps is as one at once.
func checkHalves(t *testing.T, b impl.Box, first, rest int) {
	t.Helper()
	whole, many, code := impl.RunBox(b, first+rest)
	trace, _ := impl.TraceBox(b, first+rest)
	half, many1, code1 := impl.RunBox(b, first)
	trace1, _ := impl.TraceBox(b, first)
	last, many2, code2 := impl.RunBox(half, rest)
	trace2, _ := impl.TraceBox(half, rest)
	if !likeBox(last, whole) || many1+many2 != many || code2 != code || !slices.Equal(slices.Concat(trace1, trace2), trace) {
		t.Fatalf("%d and %d steps of %s: %s, %d and %d, %q; at once %s, %d, %q", first, rest, toldBox(b), toldBox(last), many1, many2, impl.CodeWord(code2), toldBox(whole), many, impl.CodeWord(code))
	}
	if code1 != impl.OK && code1 != impl.ErrFuel || code1 == impl.OK && many2 != 0 {
		t.Fatalf("%d steps of %s have the code %q, and behind them there are %d", first, toldBox(b), impl.CodeWord(code1), many2)
	}
}

// checkBreaches looks that BreachesOf answers just these.
func checkBreaches(t *testing.T, b impl.Box, l impl.Loaded, n int, want []impl.Breach) {
	t.Helper()
	if got, code := impl.BreachesOf(b, l, n); !slices.Equal(got, want) || code != impl.OK {
		t.Errorf("BreachesOf(%s, %s, %d) = %v, %q, want %v", toldBox(b), toldLoaded(l), n, got, impl.CodeWord(code), want)
	}
}

// checkBreachesBy holds BreachesOf of a box and of what was loaded, both right, against the tests' own.
func checkBreachesBy(t *testing.T, b impl.Box, l impl.Loaded, n int) []impl.Breach {
	t.Helper()
	want := breachesByHand(l, stepsByHand(b, n))
	checkBreaches(t, b, l, n, want)
	return want
}

// toldBreaches are breaches in the words "STEP: KIND KIND", one step behind the other.
func toldBreaches(list []impl.Breach) string {
	out, last := "", -1
	for _, v := range list {
		if v.Step != last {
			out += fmt.Sprintf(" %d:", v.Step)
		}
		out, last = out+fmt.Sprintf(" %d", v.Kind), v.Step
	}
	return out
}
