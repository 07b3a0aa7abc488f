package tests

import (
	"slices"
	"strings"
	"testing"

	"loop.example/g00664/impl"
)

// A boxField is one field of a box, and the numbers from one on to another that it may have.
type boxField struct {
	name      string
	field     func(b *impl.Box) *int
	low, high int
}

// boxBounds are the fields of startBox, as they may be one by one.
func boxBounds() []boxField {
	return []boxField{
		{"Heap", func(b *impl.Box) *int { return &b.Heap }, 512, 1536},
		{"Brk", func(b *impl.Box) *int { return &b.Brk }, 1536, 3584},
		{"At", func(b *impl.Box) *int { return &b.At }, 0, 12},
		{"Clock", func(b *impl.Box) *int { return &b.Clock }, 0, 1000000},
		{"Seed", func(b *impl.Box) *int { return &b.Seed }, 0, 2147483647},
	}
}

// TestNumbersOfBoxes has each field at its bounds and one beyond, in each State.
func TestNumbersOfBoxes(t *testing.T) {
	states := []func(b *impl.Box){
		func(b *impl.Box) {},
		func(b *impl.Box) { b.State, b.Code = 2, -7 },
		func(b *impl.Box) { b.State, b.Fault, b.Where = 3, 13, -9 },
	}
	for _, state := range states {
		for _, v := range boxBounds() {
			near := []int{v.low - 1, v.low, v.low + 1, (v.low + v.high) / 2, v.high - 1, v.high, v.high + 1, -1, 0, 1, 511, 512, 3584, 3585, v.low + 1<<32}
			for _, n := range slices.Concat(near, farNumbers) {
				b := withBox(startBox(), func(b *impl.Box) {
					state(b)
					*v.field(b) = n
				})
				if want := within(n, v.low, v.high); boxRight(b) != want {
					t.Fatalf("the tests' own say of %s %d: %v", v.name, n, !want)
				}
				checkBoxOK(t, b, within(n, v.low, v.high))
			}
		}
	}
}

// TestHeapAndBrk has pairs of both: Brk is from Heap to StackAt.
func TestHeapAndBrk(t *testing.T) {
	places := []int{0, 255, 256, 511, 512, 513, 767, 768, 1000, 1535, 1536, 1537, 3327, 3328, 3583, 3584, 3585, 3840, 4095, 4096}
	for _, heap := range places {
		for _, brk := range places {
			b := withBox(startBox(), func(b *impl.Box) { b.Heap, b.Brk = heap, brk })
			checkBoxOK(t, b, 512 <= heap && heap <= brk && brk <= 3584)
		}
	}
}

// TestTextsOfBoxes has lengths of Input, with each At about them, and of Output.
func TestTextsOfBoxes(t *testing.T) {
	for _, size := range []int{0, 1, 511, 512, 513, 1023, 1024, 1025, 65536, 65537} {
		text := strings.Repeat("x", size)
		for _, at := range slices.Concat(farNumbers, []int{-1, 0, 1, size - 1, size, size + 1, 1024, 1025}) {
			b := withBox(startBox(), func(b *impl.Box) { b.Input, b.At = text, at })
			checkBoxOK(t, b, size <= 1024 && within(at, 0, size))
		}
		checkBoxOK(t, withBox(startBox(), func(b *impl.Box) { b.Output = text }), size <= 512)
	}
}

// TestStatesOfBoxes has each State, and others, with Codes, Faults and Wheres of all kinds.
func TestStatesOfBoxes(t *testing.T) {
	numbers := slices.Concat(farNumbers, []int{-2147483649, -2147483648, -2147483647, -36, -35, -1, 0, 1, 2, 34, 35, 36, 37, 255, 2147483646, 2147483647, 2147483648, 4294967295})
	wheres := []int{0, 1, -1, 1 << 40, -1 << 63}
	for _, state := range slices.Concat(farNumbers, upTo(9), []int{-1, 1<<32 + 2}) {
		for _, code := range numbers {
			for _, fault := range numbers {
				for _, where := range wheres {
					b := startBox()
					b.State, b.Code, b.Fault, b.Where = state, code, fault, where
					want := false
					switch state {
					case 1:
						want = code == 0 && fault == 0 && where == 0
					case 2:
						want = within(code, -2147483648, 2147483647) && fault == 0 && where == 0
					case 3:
						want = code == 0 && within(fault, 1, 35)
					}
					if impl.BoxOK(b) != want {
						t.Errorf("BoxOK of State %d, Code %d, Fault %d, Where %d = %v", state, code, fault, where, !want)
					}
				}
			}
		}
	}
}

// TestBoxesThatAreNotRight: processor and memory are right; all else that they hold does not count.
func TestBoxesThatAreNotRight(t *testing.T) {
	for _, b := range wrongBoxes() {
		if boxRight(b) {
			t.Fatalf("the tests' own box is right: %s", toldBox(b))
		}
		checkBoxOK(t, b, false)
	}
	for _, b := range append(otherBoxes(), startBox()) {
		if !boxRight(b) {
			t.Fatalf("the tests' own box is not right: %s", toldBox(b))
		}
		checkBoxOK(t, b, true)
	}
	for _, flags := range flagSums() {
		checkBoxOK(t, withBox(startBox(), func(b *impl.Box) { b.Cpu.Flags = flags }), true)
	}
	for _, m := range rightMemories() {
		checkBoxOK(t, withBox(startBox(), func(b *impl.Box) { b.Memory = m }), true)
	}
}

// TestSameBox has pairs of boxes: alike ones, ones that are alike but in one thing, and ones that are not right.
func TestSameBox(t *testing.T) {
	start := startBox()
	boxes := append(otherBoxes(), start)
	for i, a := range boxes {
		copied := a
		copied.Memory, copied.Input, copied.Output = elsewhere(a.Memory), withinLonger([]string{a.Input})[0], withinLonger([]string{a.Output})[0]
		if !impl.SameBox(a, copied) || !impl.SameBox(copied, a) {
			t.Errorf("%s is not like its copy", toldBox(a))
		}
		if i < len(boxes)-1 && (impl.SameBox(a, start) || impl.SameBox(start, a)) {
			t.Errorf("%s is like %s", toldBox(a), toldBox(start))
		}
		for _, b := range boxes {
			if want := likeBox(a, b); impl.SameBox(a, b) != want {
				t.Errorf("SameBox(%s, %s) = %v", toldBox(a), toldBox(b), !want)
			}
		}
	}
	for _, wrong := range wrongBoxes() {
		if impl.SameBox(wrong, wrong) || impl.SameBox(start, wrong) || impl.SameBox(wrong, start) {
			t.Errorf("SameBox of what is not right: %s", toldBox(wrong))
		}
	}
	a, b := withBox(start, func(b *impl.Box) { b.Memory.Pages = nil }), withBox(start, func(b *impl.Box) { b.Memory.Pages = []impl.Page{} })
	if !impl.SameBox(a, b) {
		t.Error("an empty list is not as nil")
	}
}
