package tests

import (
	"cmp"
	"fmt"
	"math"
	"slices"
	"strings"
	"testing"

	"loop.example/g00664/impl"
)

// lowest is the lowest four bytes of a register without a sign, lowestSigned with one.
func lowest(v int) int { return littleOf(bytesOfNumber(v, 4)) }

func lowestSigned(v int) int {
	n := lowest(v)
	if n > math.MaxInt32 {
		return n - 1<<32
	}
	return n
}

// boxRight is what chapter 13 says of a box that is right.
func boxRight(b impl.Box) bool {
	if !slices.Contains(flagSums(), b.Cpu.Flags) || !rightMemory(b.Memory) || !within(b.Heap, 512, 3584) || !within(b.Brk, b.Heap, 3584) {
		return false
	}
	if len(b.Input) > 1024 || !within(b.At, 0, len(b.Input)) || len(b.Output) > 512 || !within(b.Clock, 0, 1000000) || !within(b.Seed, 0, 2147483647) {
		return false
	}
	if b.State != 2 && b.Code != 0 || !within(b.Code, -2147483648, 2147483647) {
		return false
	}
	if b.State == 3 {
		return within(b.Fault, 1, 35)
	}
	return within(b.State, 1, 2) && b.Fault == 0 && b.Where == 0
}

// sandboxPerms is the Perm of each byte of the sandbox, 0 where there is no page.
func sandboxPerms(m impl.Memory) [4096]int {
	var perms [4096]int
	for _, p := range m.Pages {
		for i := range 256 {
			if offset := p.Base + i - 16384; within(offset, 0, 4095) {
				perms[offset] = p.Perm
			}
		}
	}
	return perms
}

// spanBy is what chapter 13 says of a span, byte by byte.
func spanBy(perms *[4096]int, offset, n, perm int) bool {
	if !within(offset, 0, 4096) || !within(n, 0, 4096-offset) {
		return false
	}
	for _, p := range perms[offset : offset+n] {
		if p&perm == 0 {
			return false
		}
	}
	return true
}

func spanByHand(m impl.Memory, offset, n, perm int) bool {
	perms := sandboxPerms(m)
	return spanBy(&perms, offset, n, perm)
}

// grownByHand is the pages that are there when Brk is another one, and whether there may be so many.
func grownByHand(b impl.Box, brk int) (impl.Memory, bool) {
	pages := slices.Clone(b.Memory.Pages)
	for offset := 0; offset < brk; offset += 256 {
		if offset+255 < b.Heap || pageByHand(b.Memory, 16384, offset) >= 0 {
			continue
		}
		pages = append(pages, impl.Page{Base: 16384 + offset, Perm: 3, Data: strings.Repeat("\x00", 256)})
	}
	slices.SortFunc(pages, func(a, b impl.Page) int { return cmp.Compare(a.Base, b.Base) })
	return impl.Memory{Pages: pages}, len(pages) <= 32
}

// answerByHand is what a service does to a box that runs, and what it answers.
func answerByHand(b impl.Box, n int) (impl.Box, int) {
	p, q, then := lowest(b.Cpu.Regs[7]), lowest(b.Cpu.Regs[6]), b
	switch n {
	case 1:
		if !spanByHand(b.Memory, p, q, 2) {
			return b, -14
		}
		part := b.Input[b.At:]
		if q < len(part) {
			part = part[:q]
		}
		then.Memory, then.At = laidByHand(b.Memory, 16384+p, part), b.At+len(part)
		return then, len(part)
	case 2:
		if !spanByHand(b.Memory, p, q, 1) {
			return b, -14
		}
		then.Output += bytesByHand(b.Memory, 16384+p, q)
		if len(then.Output) > 512 {
			return b, -28
		}
		return then, q
	case 3:
		then.Brk += lowestSigned(b.Cpu.Regs[7])
		if !within(then.Brk, b.Heap, 3584) {
			return b, -12
		}
		grown, ok := grownByHand(b, then.Brk)
		if !ok {
			return b, -12
		}
		then.Memory = grown
		return then, b.Brk
	case 4:
		if b.Clock < 1000000 {
			then.Clock++
		}
		return then, b.Clock
	case 5:
		then.Seed = (b.Seed*1103515245 + 12345) % 2147483648
		return then, then.Seed / 65536
	}
	return b, -38
}

// answerModel is what Answer is to answer, of whatever box and number.
func answerModel(b impl.Box, n int) (impl.Box, int, int) {
	switch {
	case !boxRight(b):
		return impl.Box{}, 0, impl.ErrBad
	case !within(n, 0, 7):
		return impl.Box{}, 0, impl.ErrRange
	case b.State != 1:
		return b, 0, impl.ErrDone
	case n == 0:
		return b, 0, impl.ErrService
	}
	then, answer := answerByHand(b, n)
	return then, answer, impl.OK
}

// serveModel is what Serve is to answer.
func serveModel(b impl.Box, n int) (impl.Box, int) {
	then, answer, code := answerModel(b, n)
	stack := b.Cpu.Regs[4]
	switch {
	case code == impl.ErrService:
		then.State, then.Code = 2, lowestSigned(b.Cpu.Regs[7])
		return then, impl.OK
	case code != impl.OK:
		return then, code
	}
	if _, fault := faultByHand(b.Memory, stack, 8, 1); fault != impl.OK {
		then = b
		then.State, then.Fault, then.Where = 3, fault, stack
		return then, impl.OK
	}
	back := littleOf([]byte(bytesByHand(b.Memory, stack, 2)))
	then.Cpu.Regs[0], then.Cpu.Regs[4], then.Cpu.Rip = lowest(answer), stack+8, 16384+back%4096/32*32
	return then, impl.OK
}

// likeBox compares field by field, without the program's help.
func likeBox(a, b impl.Box) bool {
	if !alike(a.Memory, b.Memory) {
		return false
	}
	return boxFields(a) == boxFields(b)
}

// boxFields is all of a box but its memory, as a text.
func boxFields(b impl.Box) string {
	b.Memory = impl.Memory{}
	return fmt.Sprintf("%#v", b)
}

// toldBox is a box as a text; of pages their bases, Perms and a sum.
func toldBox(b impl.Box) string {
	out := boxFields(b)
	for _, p := range b.Memory.Pages {
		out += fmt.Sprintf(", {%d, %d, %s}", p.Base, p.Perm, told(memory(p), 0))
	}
	return out
}

// checkAnswer holds Answer of a box against the tests' own, and tells whether what it answers is a box that is right.
func checkAnswer(t *testing.T, b impl.Box, n int) (impl.Box, int, int) {
	t.Helper()
	want, answer, code := answerModel(b, n)
	got, a, c := impl.Answer(b, n)
	if !likeBox(got, want) || a != answer || c != code {
		t.Errorf("Answer(%s, %d) = %s, %d, %q, want %s, %d, %q", toldBox(b), n, toldBox(got), a, impl.CodeWord(c), toldBox(want), answer, impl.CodeWord(code))
	}
	checkBoxOK(t, got, code != impl.ErrBad && code != impl.ErrRange)
	return got, a, c
}

// checkServe holds Serve against the tests' own likewise.
func checkServe(t *testing.T, b impl.Box, n int) (impl.Box, int) {
	t.Helper()
	want, code := serveModel(b, n)
	got, c := impl.Serve(b, n)
	if !likeBox(got, want) || c != code {
		t.Errorf("Serve(%s, %d) = %s, %q, want %s, %q", toldBox(b), n, toldBox(got), impl.CodeWord(c), toldBox(want), impl.CodeWord(code))
	}
	checkBoxOK(t, got, code != impl.ErrBad && code != impl.ErrRange)
	return got, c
}

func checkBoxOK(t *testing.T, b impl.Box, want bool) {
	t.Helper()
	if impl.BoxOK(b) != want {
		t.Errorf("BoxOK(%s) = %v", toldBox(b), !want)
	}
	if impl.SameBox(b, b) != want {
		t.Errorf("SameBox(%s and itself) = %v", toldBox(b), !want)
	}
}
