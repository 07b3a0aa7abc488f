package tests

import (
	"fmt"
	"math"
	"runtime"
	"slices"
	"sync"
	"testing"
	"time"

	"loop.example/g00664/impl"
)

// runBoxes are boxes that are right and others, told their programs by many kinds of code where Rip is.
func runBoxes() []impl.Box {
	list := []impl.Box{startBox(), servable(), stepBox(hlt), stepBox("\xeb\xfe"), stepBox("\x50\x50\xeb\xfc"), stepBox(moving(absolute(stepRead), ofReg(0))), stepBox(moving(ofReg(0), absolute(stepNone))), stepBox("\x0f\x0b"),
		stepBox(encoded(pair(impl.OpAdd, 8, absolute(stepBoth), ofNumber(7))) + "\xeb\xf5"), endingWith(300, impl.BxExit), endingWith(401, impl.BxFault)}
	for n := range 8 {
		list = append(list, withBox(servable(), at(16640+32*n)), withBox(stepBox(""), at(16640+32*n)))
	}
	list = append(list, endedBoxes()[:6]...)
	list = append(list, wrongBoxes()[:8]...)
	for _, m := range someMemories() {
		list = append(list, withBox(servable(), func(b *impl.Box) { b.Memory = m }))
	}
	for _, n := range anyNumbers {
		for _, field := range []func(b *impl.Box) *int{
			func(b *impl.Box) *int { return &b.Cpu.Rip }, func(b *impl.Box) *int { return &b.Cpu.Regs[4] }, func(b *impl.Box) *int { return &b.Cpu.Flags }, func(b *impl.Box) *int { return &b.State }, func(b *impl.Box) *int { return &b.Heap }, func(b *impl.Box) *int { return &b.Clock },
		} {
			list = append(list, withBox(stepBox("\x50\x58\xeb\xfc"), func(b *impl.Box) { *field(b) = n }))
		}
	}
	return append(list, withBox(servable(), func(b *impl.Box) {
		for _, field := range []*int{&b.Heap, &b.Brk, &b.At, &b.Clock, &b.Seed, &b.State, &b.Code, &b.Fault, &b.Where, &b.Cpu.Rip, &b.Cpu.Flags} {
			*field = math.MaxInt
		}
	}))
}

// runBoxCalls are the calls of chapter 14 that take one of these boxes.
func runBoxCalls(boxes []impl.Box) []call {
	var list []call
	add := func(make func() string, name ...any) { list = append(list, call{fmt.Sprint(name...), make}) }
	for i, b := range boxes {
		add(func() string {
			got, told, code := impl.StepBox(b)
			return boxAnswer(got, code) + fmt.Sprint(told)
		}, "StepBox ", i)
		for _, n := range []int{0, 1, 2, 40, 400, 401, -1, math.MinInt, math.MaxInt, 1<<32 + 1} {
			add(func() string {
				got, many, code := impl.RunBox(b, n)
				return boxAnswer(got, many, code)
			}, "RunBox ", i, n)
			add(func() string { return fmt.Sprint(impl.TraceBox(b, n)) }, "TraceBox ", i, n)
		}
	}
	return list
}

// breachCalls are BreachesOf of some boxes, and what was loaded.
func breachCalls(boxes []impl.Box, loads []impl.Loaded) []call {
	var list []call
	for i, b := range boxes {
		for k, l := range loads {
			for _, n := range []int{0, 3, 400, -1, math.MinInt} {
				list = append(list, call{fmt.Sprint("BreachesOf ", i, k, n), func() string { return fmt.Sprint(impl.BreachesOf(b, l, n)) }})
			}
		}
	}
	return list
}

// breachBoxes are some of runBoxes, and boxes of what was loaded.
func breachBoxes() []impl.Box {
	list := runBoxes()[:4]
	for _, v := range toldLoads() {
		b, _ := impl.NewBox(v.loaded, "input", 1)
		list = append(list, b, withBox(b, base15(1)), withBox(b, func(b *impl.Box) { b.State = 2 }))
	}
	return append(list, impl.Box{})
}

// insideCalls are Inside of any integers.
func insideCalls() []call {
	var list []call
	for _, address := range slices.Concat(anyNumbers, []int{12288, 16384, 24575}) {
		for _, size := range anyNumbers {
			for _, kind := range []int{0, 1, 2, 3, -1, math.MaxInt} {
				a := impl.Access{Kind: kind, Address: address, Size: size, Value: address}
				list = append(list, call{fmt.Sprint("Inside ", a), func() string { return fmt.Sprint(impl.Inside(a)) }})
			}
		}
	}
	return list
}

// runCalls are all the calls of chapter 14.
func runCalls() []call {
	return slices.Concat(runBoxCalls(runBoxes()), breachCalls(breachBoxes(), someLoads()), insideCalls())
}

// TestRunBoxesStay holds for P1: no call changes a box, nor what stands behind its list of pages, and none asks where it lies.
func TestRunBoxesStay(t *testing.T) {
	boxes, wants := runBoxes(), runBoxes()
	for i, b := range boxes {
		checkBoxStays(t, b, wants[i], func(b impl.Box) []call { return runBoxCalls([]impl.Box{b}) })
	}
}

// TestBreachBoxesStay holds likewise of BreachesOf, for the box and for what was loaded.
func TestBreachBoxesStay(t *testing.T) {
	boxes, wants := breachBoxes(), breachBoxes()
	loads, wantLoads := someLoads()[:20], someLoads()[:20]
	for i, b := range boxes {
		checkBoxStays(t, b, wants[i], func(b impl.Box) []call { return breachCalls([]impl.Box{b}, loads) })
	}
	for i, l := range loads {
		copied := l
		copied.Memory, copied.Report = elsewhere(l.Memory), cloned(l.Report)
		behind := copied.Memory.Pages[:len(l.Memory.Pages)+1]
		checkAlike(t, breachCalls(boxes, []impl.Loaded{l}), breachCalls(boxes, []impl.Loaded{copied}))
		if !likeLoaded(l, wantLoads[i]) || !likeLoaded(copied, wantLoads[i]) || behind[len(behind)-1] != page(2048, 2) {
			t.Errorf("what was loaded is changed: %s, want %s", toldLoaded(l), toldLoaded(wantLoads[i]))
		}
	}
}

// ranBoxes are all boxes that are answered of one box, and of several numbers of steps.
func ranBoxes(b impl.Box) []impl.Box {
	stepped, _, _ := impl.StepBox(b)
	list := []impl.Box{stepped}
	for _, n := range []int{0, 1, 2, 3, 50} {
		ran, _, _ := impl.RunBox(b, n)
		list = append(list, ran)
	}
	return list
}

// TestRunsOfBoxesShareNothing holds for P1 and rule 3 of steps and runs, of a box that is answered as it was, too.
func TestRunsOfBoxesShareNothing(t *testing.T) {
	for _, given := range runBoxes() {
		if boxRight(given) && len(given.Memory.Pages) > 0 {
			checkBoxesShareNothing(t, given, ranBoxes)
		}
	}
}

// TestListsOfRunsShareNothing holds likewise of the lists: accesses, traces and breaches.
func TestListsOfRunsShareNothing(t *testing.T) {
	l, start := watched(t)
	b := withBox(start, both(at(16896+watchStore), stack(4096), base15(0)))
	_, told, _ := impl.StepBox(b)
	trace, _ := impl.TraceBox(b, 3)
	breaches, _ := impl.BreachesOf(b, l, 3)
	again, _ := impl.BreachesOf(b, l, 3)
	if len(told) != 2 || len(trace) != 2 || len(breaches) != 6 {
		t.Fatal(told, trace, breaches)
	}
	spoilAccesses(told)
	spoilNumbers(trace)
	for i := range breaches[:cap(breaches)] {
		breaches[:cap(breaches)][i] = impl.Breach{Step: -1, Kind: -1}
	}
	if toldBreaches(again) != " 0: 2 4 5 7 1: 5 7" {
		t.Error("breaches of two answers share memory:", again)
	}
	checkStepBox(t, b)
	checkRunBox(t, b, 3)
	checkBreachesBy(t, b, l, 3)
	if want, _ := watched(t); !likeLoaded(l, want) {
		t.Error("what was loaded is changed")
	}
}

// TestRunsBesideCodes holds for rule 5: beside a code there is nothing, but where the box, or the number of its steps, is answered all the same.
func TestRunsBesideCodes(t *testing.T) {
	codes := map[int]int{}
	for _, b := range runBoxes() {
		got, told, code := impl.StepBox(b)
		codes[code]++
		if code == impl.ErrDone && !likeBox(got, b) || code == impl.ErrBad && !likeBox(got, impl.Box{}) || code != impl.OK && len(told) != 0 || !within(code, 0, 1) && code != impl.ErrDone {
			t.Errorf("StepBox(%s) = %s, %v, %q", toldBox(b), toldBox(got), told, impl.CodeWord(code))
		}
		for _, n := range slices.Concat(fewFuels, noFuels) {
			got, many, code := impl.RunBox(b, n)
			codes[code]++
			none := code == impl.ErrBad || code == impl.ErrRange
			if none && (!likeBox(got, impl.Box{}) || many != 0) || !none && code != impl.OK && code != impl.ErrFuel || code == impl.ErrFuel && (many != n || got.State != impl.BxRun) || code == impl.OK && got.State == impl.BxRun {
				t.Errorf("RunBox(%s, %d) = %s, %d, %q", toldBox(b), n, toldBox(got), many, impl.CodeWord(code))
			}
			trace, c := impl.TraceBox(b, n)
			if len(trace) != many || none && c != code || !none && c != impl.OK {
				t.Errorf("TraceBox(%s, %d) = %v, %q", toldBox(b), n, trace, impl.CodeWord(c))
			}
		}
	}
	for _, code := range []int{impl.OK, impl.ErrBad, impl.ErrRange, impl.ErrDone, impl.ErrFuel} {
		if codes[code] < 5 {
			t.Errorf("%q came %d times", impl.CodeWord(code), codes[code])
		}
	}
}

// TestNoGoroutineIsLeft holds for P1: many calls, one behind the other and beside one another, answer alike, and leave nothing that runs on.
func TestNoGoroutineIsLeft(t *testing.T) {
	l, start := watched(t)
	boxes := []impl.Box{withBox(start, at(16896+watchJump)), withBox(start, both(at(16896+watchStore), stack(4096))), withBox(start, func(b *impl.Box) { b.State = 2 }), withBox(start, at(16640)), {}}
	list := slices.Concat(runBoxCalls(boxes), breachCalls(boxes, []impl.Loaded{l, {}}))
	want := answersOf(list)
	before := runtime.NumGoroutine()
	var group sync.WaitGroup
	wrong := make([]bool, 8)
	for i := range wrong {
		group.Go(func() {
			for range 40 {
				wrong[i] = wrong[i] || !slices.Equal(answersOf(list), want)
			}
		})
	}
	group.Wait()
	if slices.Contains(wrong, true) {
		t.Error("calls beside others answer otherwise")
	}
	// One that has done all its work may take a moment to be gone.
	for range 100 {
		if runtime.NumGoroutine() <= before {
			return
		}
		time.Sleep(10 * time.Millisecond)
	}
	t.Errorf("there were %d goroutines, and now there are %d", before, runtime.NumGoroutine())
}
