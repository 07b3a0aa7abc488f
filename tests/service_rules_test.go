package tests

import (
	"fmt"
	"math"
	"slices"
	"strings"
	"testing"

	"loop.example/g00664/impl"
)

// someBoxes are boxes that are right and others, with numbers in each field that no call need expect.
func someBoxes() []impl.Box {
	list := append([]impl.Box{startBox(), servable(), crowdedBox(32)}, otherBoxes()...)
	list = append(list, wrongBoxes()[:12]...)
	for _, m := range someMemories() {
		list = append(list, withBox(servable(), func(b *impl.Box) { b.Memory = m }))
	}
	for _, n := range anyNumbers {
		list = append(list, withPQ(startBox(), n, 5), withPQ(startBox(), 1024, n))
		for _, field := range []func(b *impl.Box) *int{
			func(b *impl.Box) *int { return &b.Heap }, func(b *impl.Box) *int { return &b.Brk }, func(b *impl.Box) *int { return &b.At }, func(b *impl.Box) *int { return &b.Clock },
			func(b *impl.Box) *int { return &b.Seed }, func(b *impl.Box) *int { return &b.State }, func(b *impl.Box) *int { return &b.Cpu.Regs[4] }, func(b *impl.Box) *int { return &b.Cpu.Flags },
		} {
			list = append(list, withBox(servable(), func(b *impl.Box) { *field(b) = n }))
		}
	}
	list = append(list, withBox(servable(), func(b *impl.Box) {
		for _, field := range []*int{&b.Heap, &b.Brk, &b.At, &b.Clock, &b.Seed, &b.State, &b.Code, &b.Fault, &b.Where, &b.Cpu.Rip, &b.Cpu.Flags} {
			*field = math.MinInt
		}
	}))
	return append(list, withBox(servable(), func(b *impl.Box) { b.Input, b.Output = strings.Repeat("x", 70000), strings.Repeat("y", 70000) }))
}

// boxAnswer is a box and numbers as a text that is short even of a large memory.
func boxAnswer(b impl.Box, numbers ...int) string {
	return fmt.Sprint(boxFields(b), told(b.Memory, 0), numbers)
}

// boxCalls are the calls of chapter 13 that take one of these boxes, or its memory.
func boxCalls(boxes []impl.Box) []call {
	var list []call
	add := func(make func() string, name ...any) { list = append(list, call{fmt.Sprint(name...), make}) }
	start := startBox()
	for i, b := range boxes {
		add(func() string { return fmt.Sprint(impl.BoxOK(b)) }, "BoxOK ", i)
		add(func() string { return fmt.Sprint(impl.SameBox(b, start), impl.SameBox(start, b), impl.SameBox(b, b)) }, "SameBox ", i)
		add(func() string { return fmt.Sprint(impl.SpanOK(b.Memory, b.Cpu.Regs[7], b.Cpu.Regs[6], b.State)) }, "SpanOK ", i)
		for _, n := range []int{0, 1, 2, 3, 4, 5, 6, 7, 8, -1, math.MinInt, math.MaxInt, 1<<32 + 1} {
			add(func() string {
				got, answer, code := impl.Answer(b, n)
				return boxAnswer(got, answer, code)
			}, "Answer ", i, n)
			add(func() string {
				got, code := impl.Serve(b, n)
				return boxAnswer(got, code)
			}, "Serve ", i, n)
		}
	}
	return list
}

// newBoxCalls are those that take one of these texts as input.
func newBoxCalls(texts []string) []call {
	var list []call
	loads := []impl.Loaded{toldLoads()[0].loaded, toldLoads()[1].loaded, {}, {Heap: 512}, {Heap: 513, Entry: math.MaxInt, Memory: patchwork()}, {Heap: 512, Memory: pagesFrom(0, 33, 3)}}
	for i, text := range texts {
		for k, l := range loads {
			for _, seed := range []int{0, 1, -1, math.MaxInt32, 1 << 31, math.MinInt, math.MaxInt} {
				list = append(list, call{fmt.Sprint("NewBox ", i, k, seed), func() string {
					b, code := impl.NewBox(l, text, seed)
					return boxAnswer(b, code)
				}})
			}
		}
	}
	return list
}

// spanCalls are spans of a few memories, by any integers.
func spanCalls() []call {
	var list []call
	for i, m := range []impl.Memory{startMemory(), pagesFrom(16384, 16, 7), pagesFrom(0, 33, 7)} {
		for _, offset := range anyNumbers {
			for _, n := range anyNumbers {
				for _, perm := range []int{0, 1, 2, 7, 8, -1, math.MinInt, math.MaxInt} {
					list = append(list, call{fmt.Sprint("SpanOK ", i, offset, n, perm), func() string { return fmt.Sprint(impl.SpanOK(m, offset, n, perm)) }})
				}
			}
		}
	}
	return list
}

// inputTexts are inputs of boxes, and longer texts.
func inputTexts() []string {
	return append(anyTexts(), strings.Repeat("i", 1023), strings.Repeat("j", 1024), strings.Repeat("k", 1025))
}

// serviceCalls are all the calls of chapter 13.
func serviceCalls() []call {
	return slices.Concat(boxCalls(someBoxes()), newBoxCalls(inputTexts()), spanCalls())
}

// TestAlikeInputsHaveAlikeBoxes holds for P1.
func TestAlikeInputsHaveAlikeBoxes(t *testing.T) { checkAlikeTexts(t, inputTexts, newBoxCalls) }

// checkBoxStays makes calls of a box, and of one that is alike but lies elsewhere, and looks that both stay, and what stands behind their lists.
func checkBoxStays(t *testing.T, b, want impl.Box, callsOf func(b impl.Box) []call) {
	t.Helper()
	copied := b
	copied.Memory, copied.Input, copied.Output = elsewhere(b.Memory), withinLonger([]string{b.Input})[0], withinLonger([]string{b.Output})[0]
	behind := copied.Memory.Pages[:len(b.Memory.Pages)+1]
	checkAlike(t, callsOf(b), callsOf(copied))
	if !likeBox(b, want) || !likeBox(copied, want) || behind[len(behind)-1] != page(2048, 2) {
		t.Errorf("a box is changed: %s, want %s", toldBox(b), toldBox(want))
	}
}

// TestBoxesStay holds for P1: no call changes a box, nor what stands behind its list of pages, and none asks where it lies.
func TestBoxesStay(t *testing.T) {
	boxes, wants := someBoxes(), someBoxes()
	for i, b := range boxes {
		checkBoxStays(t, b, wants[i], func(b impl.Box) []call { return boxCalls([]impl.Box{b}) })
	}
}

// TestLoadsOfBoxesStay holds for P1 of NewBox.
func TestLoadsOfBoxesStay(t *testing.T) {
	loads, wants := someLoads(), someLoads()
	for i, l := range loads {
		copied := l
		copied.Memory, copied.Report = elsewhere(l.Memory), cloned(l.Report)
		behind := copied.Memory.Pages[:len(l.Memory.Pages)+1]
		a, code := impl.NewBox(l, "input", 1)
		b, c := impl.NewBox(copied, "input", 1)
		if !likeBox(a, b) || code != c || !likeLoaded(l, wants[i]) || !likeLoaded(copied, wants[i]) || behind[len(behind)-1] != page(2048, 2) {
			t.Errorf("NewBox(%s) = %s, %q; %s, %q", toldLoaded(wants[i]), toldBox(a), impl.CodeWord(code), toldBox(b), impl.CodeWord(c))
		}
	}
}

// answeredBoxes are the answers of all services of a box, by Answer and by Serve.
func answeredBoxes(b impl.Box) []impl.Box {
	var list []impl.Box
	for n := range 8 {
		answered, _, _ := impl.Answer(b, n)
		served, _ := impl.Serve(b, n)
		list = append(list, answered, served)
	}
	return list
}

// checkBoxesShareNothing looks that what is written into the pages of one of the boxes that are answered of a box shows neither in that box nor in another answer.
func checkBoxesShareNothing(t *testing.T, given impl.Box, answersOf func(b impl.Box) []impl.Box) {
	t.Helper()
	b := given
	all := append(slices.Clone(given.Memory.Pages), page(65024, 3), page(65280, 3))
	before := slices.Clone(all)
	b.Memory.Pages = all[:len(given.Memory.Pages)]
	wants := answersOf(given)
	for which := range wants {
		kept, spoilt := answersOf(b), answersOf(b)[which]
		if len(spoilt.Memory.Pages) < len(given.Memory.Pages) {
			t.Fatal("an answer without its memory", toldBox(spoilt))
		}
		spoil(spoilt.Memory.Pages)
		for i, got := range append(kept, answersOf(b)...) {
			if want := wants[i%len(wants)]; !likeBox(got, want) {
				t.Errorf("answers share memory: %s, want %s", toldBox(got), toldBox(want))
			}
		}
		if !slices.Equal(all, before) {
			t.Fatal("an answer shares memory with the box")
		}
	}
}

// TestBoxesShareNothing holds for P1 and rule 3 of services, of a box that is answered as it was, too.
func TestBoxesShareNothing(t *testing.T) {
	faulted := withBox(servable(), func(b *impl.Box) { b.Cpu.Regs[4] = 0 })
	for _, given := range []impl.Box{servable(), withPQ(startBox(), -1, -1), withPQ(startBox(), 1024, 0), withPQ(startBox(), 512, 600), crowdedBox(32), withPQ(crowdedBox(32), 1, 0), faulted, withBox(servable(), func(b *impl.Box) { b.State = 2 }), withBox(servable(), func(b *impl.Box) { b.State, b.Fault = 3, 1 })} {
		checkBoxesShareNothing(t, given, answeredBoxes)
	}
}

// TestNewBoxesShareNothing holds for P1 and rule 3 of NewBox.
func TestNewBoxesShareNothing(t *testing.T) {
	for _, v := range toldLoads() {
		all := append(slices.Clone(v.loaded.Memory.Pages), page(40960, 3))
		before := slices.Clone(all)
		l := v.loaded
		l.Memory.Pages = all[:len(all)-1]
		kept, _ := impl.NewBox(l, "input", 1)
		spoilt, _ := impl.NewBox(l, "input", 1)
		spoil(spoilt.Memory.Pages)
		again, _ := impl.NewBox(l, "input", 1)
		if want := newBoxByHand(v.loaded, "input", 1); !likeBox(kept, want) || !likeBox(again, want) || !slices.Equal(all, before) {
			t.Errorf("boxes share memory: %s, %s, want %s", toldBox(kept), toldBox(again), toldBox(want))
		}
	}
}

// TestBoxesBesideCodes holds for rule 5: beside a code there is nothing, but where the box is answered as it was.
func TestBoxesBesideCodes(t *testing.T) {
	codes := map[int]int{}
	for _, b := range someBoxes() {
		for _, n := range slices.Concat(upTo(9), farNumbers, []int{-1}) {
			got, answer, code := impl.Answer(b, n)
			served, c := impl.Serve(b, n)
			codes[code]++
			kept := code == impl.ErrDone || code == impl.ErrService
			if kept && !likeBox(got, b) || !kept && code != impl.OK && !likeBox(got, impl.Box{}) || code != impl.OK && answer != 0 {
				t.Errorf("Answer(%s, %d) = %s, %d, %q", toldBox(b), n, toldBox(got), answer, impl.CodeWord(code))
			}
			if code == impl.ErrService {
				code = impl.OK
			}
			if c != code || c == impl.ErrDone && !likeBox(served, b) || (c == impl.ErrBad || c == impl.ErrRange) && !likeBox(served, impl.Box{}) {
				t.Errorf("Serve(%s, %d) = %s, %q", toldBox(b), n, toldBox(served), impl.CodeWord(c))
			}
		}
	}
	for _, code := range []int{impl.OK, impl.ErrBad, impl.ErrRange, impl.ErrDone, impl.ErrService} {
		if codes[code] < 20 {
			t.Errorf("%q came %d times", impl.CodeWord(code), codes[code])
		}
	}
}
