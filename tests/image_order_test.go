package tests

import (
	"math"
	"slices"
	"strings"
	"testing"

	"loop.example/g00664/impl"
)

// A wrongPiece is a segment at a place, and the code that it has behind a segment of FlagsRun.
type wrongPiece struct {
	at   func(vaddr int) impl.Segment
	code int
}

func wrongPieces() []wrongPiece {
	return []wrongPiece{
		{func(vaddr int) impl.Segment { return dataSegment(7, vaddr, 9, "data") }, impl.ErrPerm},
		{func(vaddr int) impl.Segment { return dataSegment(-5, vaddr, 9, "") }, impl.ErrPerm},
		{func(vaddr int) impl.Segment { return dataSegment(6, vaddr+1, 9, "data") }, impl.ErrSegment},
		{func(vaddr int) impl.Segment { return dataSegment(4, vaddr, 0, "") }, impl.ErrSegment},
		{func(vaddr int) impl.Segment { return dataSegment(4, vaddr, 3, "data") }, impl.ErrSegment},
		{func(vaddr int) impl.Segment { return dataSegment(5, 512, 32, nops(32)) }, impl.ErrSegment},
		{func(vaddr int) impl.Segment { return codeSegment(vaddr, 32) }, impl.ErrText},
		{func(vaddr int) impl.Segment { return dataSegment(5, vaddr, 64, nops(32)) }, impl.ErrText},
		{func(vaddr int) impl.Segment { return dataSegment(5, vaddr, 31, nops(31)) }, impl.ErrText},
	}
}

// TestFirstWrongSegment has two segments that are wrong, in all places: the first one is told, with its code, ahead of Entry.
func TestFirstWrongSegment(t *testing.T) {
	for _, first := range wrongPieces() {
		for _, second := range wrongPieces() {
			for _, entry := range []int{512, 513, 0, math.MinInt} {
				a, b, fine := first.at(768), second.at(1024), dataSegment(6, 1280, 9, "")
				checkImage(t, imageOf(entry, codeSegment(512, 32), a, b), 1, first.code)
				checkImage(t, imageOf(entry, codeSegment(512, 32), a, fine, b), 1, first.code)
				checkImage(t, imageOf(entry, codeSegment(512, 32), dataSegment(4, 768, 1, ""), first.at(1024), second.at(1280)), 2, first.code)
				checkImage(t, imageOf(entry, codeSegment(512, 32), a), 1, first.code)
				checkImage(t, imageOf(entry, codeSegment(512, 32), a, b, fine, fine), 0, impl.ErrMany)
			}
		}
	}
}

// TestFirstFaultOfSegments has segments with several faults, and images with others behind them.
func TestFirstFaultOfSegments(t *testing.T) {
	for _, vaddr := range []int{0, 256, 513, 3584, -1, math.MaxInt} {
		checkImage(t, imageOf(0, dataSegment(7, vaddr, 0, "data")), 0, impl.ErrPerm)
		checkImage(t, imageOf(0, dataSegment(5, vaddr, 31, nops(30))), 0, impl.ErrSegment)
		checkImage(t, imageOf(0, dataSegment(6, vaddr, 31, "")), 0, impl.ErrSegment)
		checkImage(t, imageOf(0, codeSegment(512, 32), dataSegment(5, vaddr, 31, nops(30))), 1, impl.ErrSegment)
		checkImage(t, imageOf(0, codeSegment(512, 32), dataSegment(7, vaddr, 31, nops(30))), 1, impl.ErrPerm)
	}
	for _, memsz := range []int{0, -32, math.MinInt, 3104, math.MaxInt, math.MaxInt - 31} {
		checkImage(t, imageOf(0, dataSegment(7, 512, memsz, nops(32))), 0, impl.ErrPerm)
		checkImage(t, imageOf(0, dataSegment(5, 512, memsz, nops(31))), 0, impl.ErrSegment)
		checkImage(t, imageOf(512, codeSegment(512, 32), dataSegment(5, 768, memsz, nops(31))), 1, impl.ErrSegment)
	}
	for _, entry := range slices.Concat(farNumbers, []int{0, 512, 513}) {
		checkImage(t, imageOf(entry, dataSegment(6, 512, 32, nops(32))), 0, impl.ErrText)
		checkImage(t, imageOf(entry, dataSegment(6, 512, 32, nops(32)), dataSegment(6, 512, 32, "")), 1, impl.ErrSegment)
		checkImage(t, imageOf(entry, dataSegment(6, 512, 32, nops(32)), dataSegment(8, 768, 32, "")), 1, impl.ErrPerm)
		checkImage(t, imageOf(entry, dataSegment(5, 512, 31, nops(31))), 0, impl.ErrText)
	}
}

// TestFirstFaultOfHeads: length, head, number of segments, their heads, in that order, ahead of all that segments have.
func TestFirstFaultOfHeads(t *testing.T) {
	wrong := strings.Repeat("x", 63)
	checkRead(t, wrong, impl.ErrEnd)
	checkRead(t, wrong+"x", impl.ErrMagic)
	checkRead(t, strings.Repeat(wrong, 2000), impl.ErrLong)
	magic := func(p *elfPlan) { p.head.Machine = 3 }
	many := func(p *elfPlan) { p.head.Phnum = 5 }
	cut := func(p *elfPlan) { p.progs, p.rest = p.progs[:1], "" }
	kind := func(p *elfPlan) { p.progs[0].Type = 2 }
	end := func(p *elfPlan) { p.progs[0].Off = 1 << 20 }
	flags := func(p *elfPlan) { p.progs[0].Flags = 7 }
	entry := func(p *elfPlan) { p.head.Entry = 1 }
	both := func(code int, changes ...func(p *elfPlan)) {
		t.Helper()
		checkPlan(t, code, func(p *elfPlan) {
			for _, change := range changes {
				change(p)
			}
		})
	}
	for i, later := range []func(p *elfPlan){entry, flags, end, kind, cut, many} {
		both(impl.ErrMagic, magic, later)
		if i < 5 {
			both(impl.ErrMany, many, later)
			both(impl.ErrMagic, magic, many, later)
		}
		if i < 4 {
			both(impl.ErrEnd, cut, later)
		}
		if i < 3 {
			both(impl.ErrSegment, kind, later)
		}
		if i < 2 {
			both(impl.ErrEnd, end, later)
		}
	}
	both(impl.ErrPerm, flags, entry)
	both(impl.ErrEntry, entry)
	both(impl.ErrNone, entry, func(p *elfPlan) { p.head.Phnum = 0 })
}

// TestFirstWrongSegmentOfTexts: of each segment in turn its numbers, then its Data; what CheckImage asks for comes behind all of them.
func TestFirstWrongSegmentOfTexts(t *testing.T) {
	numbers := []func(p *elfPlan, i int){
		func(p *elfPlan, i int) { p.progs[i].Type = 0 },
		func(p *elfPlan, i int) { p.progs[i].Paddr++ },
		func(p *elfPlan, i int) { p.progs[i].Vaddr = 1 << 63 },
		func(p *elfPlan, i int) { p.progs[i].Align = 4096 },
	}
	ends := []func(p *elfPlan, i int){
		func(p *elfPlan, i int) { p.progs[i].Off = 1 << 63 },
		func(p *elfPlan, i int) { p.progs[i].Off = 70000 },
		func(p *elfPlan, i int) { p.progs[i].Filesz = 1 << 63 },
		func(p *elfPlan, i int) { p.progs[i].Filesz = 245 },
	}
	later := []func(p *elfPlan, i int){
		func(p *elfPlan, i int) { p.progs[i].Flags = 9 },
		func(p *elfPlan, i int) { p.progs[i].Vaddr, p.progs[i].Paddr = 256, 256 },
		func(p *elfPlan, i int) { p.progs[i].Memsz = 1 << 63 },
		func(p *elfPlan, i int) { p.progs[i].Flags, p.progs[i].Memsz = 5, 65 },
		func(p *elfPlan, i int) { p.head.Entry = 513 },
	}
	pair := func(code int, first func(p *elfPlan, i int), i int, second func(p *elfPlan, i int), k int) {
		t.Helper()
		checkPlan(t, code, func(p *elfPlan) {
			second(p, k)
			first(p, i)
		})
	}
	for _, number := range numbers {
		for _, end := range ends {
			pair(impl.ErrSegment, number, 0, end, 0)
			pair(impl.ErrSegment, number, 0, end, 1)
			pair(impl.ErrSegment, number, 1, end, 1)
			pair(impl.ErrEnd, end, 0, number, 1)
		}
		for _, check := range later {
			pair(impl.ErrSegment, number, 0, check, 0)
			pair(impl.ErrSegment, number, 0, check, 1)
			pair(impl.ErrSegment, number, 1, check, 0)
			pair(impl.ErrSegment, number, 1, check, 1)
		}
	}
	for _, end := range ends {
		for _, check := range later {
			pair(impl.ErrEnd, end, 0, check, 0)
			pair(impl.ErrEnd, end, 0, check, 1)
			pair(impl.ErrEnd, end, 1, check, 0)
			pair(impl.ErrEnd, end, 1, check, 1)
		}
	}
}
