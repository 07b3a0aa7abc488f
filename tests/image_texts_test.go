package tests

import (
	"debug/elf"
	"math"
	"slices"
	"strings"
	"testing"

	"loop.example/g00664/impl"
)

// below0 are numbers of eight bytes whose highest bit is set, as they stand in a text.
var below0 = []uint64{1 << 63, 1<<63 + 1, 1<<63 + 120, 1<<63 + 512, math.MaxUint64, math.MaxUint64 - 31, math.MaxUint64 - 255}

// above are numbers near the highest ones that have no sign.
var above = []uint64{1 << 32, 1<<32 + 512, 1 << 62, math.MaxInt64, math.MaxInt64 - 31, math.MaxInt64 - 119, math.MaxInt64 - 255, math.MaxInt64 - 511}

// plainPlan is code of two bundles, with its Data from 176 on, and behind it data of which four bytes are told, from 240 on.
func plainPlan() elfPlan {
	return planOf(imageOf(544, codeSegment(512, 64), dataSegment(6, 768, 300, "data")))
}

// checkPlan looks at the text of the plain plan in which something is another one.
func checkPlan(t *testing.T, code int, change func(p *elfPlan)) {
	t.Helper()
	checkRead(t, plainPlan().changed(change).text(), code)
}

// TestTextsThatAreCutOff has each beginning of an image's text: of its head, of the heads of its segments, of its Data.
func TestTextsThatAreCutOff(t *testing.T) {
	for _, v := range toldTexts() {
		text := planOf(v.image).text()
		for size := range len(text) {
			checkRead(t, text[:size], impl.ErrEnd)
		}
		checkRead(t, text, impl.OK)
	}
	// Data of no bytes need nothing behind the heads.
	im := imageOf(512, codeSegment(512, 32), dataSegment(6, 768, 300, ""))
	text := planOf(im).text()
	checkRead(t, text[:207], impl.ErrEnd)
	checkRead(t, text, impl.OK)
	// What is told by no segment is not asked for.
	head := plainPlan().changed(func(p *elfPlan) { p.head.Phnum, p.progs = 0, nil }).text()
	for size := range 64 {
		checkRead(t, head[:size], impl.ErrEnd)
	}
	checkRead(t, head[:64], impl.ErrNone)
	checkRead(t, head, impl.ErrNone)
}

// TestBytesOfHeads changes each byte of the head into each other one.
func TestBytesOfHeads(t *testing.T) {
	for _, v := range toldTexts()[:3] {
		text := planOf(v.image).text()
		for i := range 64 {
			if within(i, 24, 31) || within(i, 56, 57) {
				continue
			}
			for b := range 256 {
				if byte(b) != text[i] {
					checkRead(t, text[:i]+string([]byte{byte(b)})+text[i+1:], impl.ErrMagic)
				}
			}
		}
	}
}

// TestEntriesOfTexts changes the bytes of Entry: the head stays one, whatever they are.
func TestEntriesOfTexts(t *testing.T) {
	text := plainPlan().text()
	for i := 24; i < 32; i++ {
		for b := range 256 {
			code := impl.ErrEntry
			if byte(b) == text[i] || i == 24 && b == 0 {
				code = impl.OK
			}
			checkRead(t, text[:i]+string([]byte{byte(b)})+text[i+1:], code)
		}
	}
	for _, entry := range slices.Concat(below0, above) {
		checkPlan(t, impl.ErrEntry, func(p *elfPlan) { p.head.Entry = entry })
	}
}

// TestCountsOfTexts has each number of segments in the head, of two bytes.
func TestCountsOfTexts(t *testing.T) {
	for many := range 65536 {
		code := impl.ErrMany
		switch {
		case many == 0:
			code = impl.ErrNone
		case many == 1, many == 2:
			code = impl.OK
		case many == 3: // what is read as a head then is code
			code = impl.ErrSegment
		case many == 4:
			code = impl.ErrEnd
		}
		checkPlan(t, code, func(p *elfPlan) { p.head.Phnum = uint16(many) })
	}
	// Five whole segments are too many, and four are not.
	for n, code := range map[int]int{4: impl.OK, 5: impl.ErrMany, 6: impl.ErrMany} {
		list := []impl.Segment{codeSegment(512, 32)}
		for i := 1; i < n; i++ {
			list = append(list, dataSegment(6, 512+256*i, 9, "d"))
		}
		checkRead(t, planOf(imageOf(512, list...)).text(), code)
	}
}

// TestBytesOfSegments changes the bytes of each segment's head that may not be others: its kind, Vaddr in one of its places, PageSize.
func TestBytesOfSegments(t *testing.T) {
	for _, v := range toldTexts()[:3] {
		text := planOf(v.image).text()
		for i := range v.image.Segments {
			at := 64 + 56*i
			for k := range 56 {
				if !within(k, 0, 3) && !within(k, 16, 31) && !within(k, 48, 55) {
					continue
				}
				for b := range 256 {
					if byte(b) != text[at+k] {
						checkRead(t, text[:at+k]+string([]byte{byte(b)})+text[at+k+1:], impl.ErrSegment)
					}
				}
			}
		}
	}
}

// TestFlagsOfTexts has Flags of four bytes, all of which count.
func TestFlagsOfTexts(t *testing.T) {
	for _, flags := range []uint32{0, 1, 2, 3, 7, 8, 12, 256 + 4, 256 + 6, 65536 + 6, 1<<24 + 6, 1<<31 + 6, math.MaxUint32, math.MaxUint32 - 1} {
		checkPlan(t, impl.ErrPerm, func(p *elfPlan) { p.progs[0].Flags = flags })
		checkPlan(t, impl.ErrPerm, func(p *elfPlan) { p.progs[1].Flags = flags })
	}
	checkPlan(t, impl.OK, func(p *elfPlan) { p.progs[1].Flags = 4 })
	checkPlan(t, impl.OK, func(p *elfPlan) { p.progs[1].Flags = 6 })
	checkPlan(t, impl.ErrText, func(p *elfPlan) { p.progs[0].Flags = 4 })
	checkPlan(t, impl.ErrText, func(p *elfPlan) { p.progs[1].Flags = 5 })
}

// TestPlacesOfData has Data that begin anywhere: in the heads, over one another, where the text ends, behind it and below 0.
func TestPlacesOfData(t *testing.T) {
	size := len(plainPlan().text())
	for begin := range size + 40 {
		code := impl.OK
		if begin > size-64 {
			code = impl.ErrEnd
		}
		checkPlan(t, code, func(p *elfPlan) { p.progs[0].Off = uint64(begin) })
		code = impl.OK
		if begin > size-4 {
			code = impl.ErrEnd
		}
		checkPlan(t, code, func(p *elfPlan) { p.progs[1].Off = uint64(begin) })
		code = impl.OK
		if begin > size {
			code = impl.ErrEnd
		}
		checkPlan(t, code, func(p *elfPlan) { p.progs[1].Off, p.progs[1].Filesz = uint64(begin), 0 })
	}
	for _, begin := range slices.Concat(below0, above, []uint64{65536, 65537, 1 << 16, 1 << 31}) {
		for i := range 2 {
			checkPlan(t, impl.ErrEnd, func(p *elfPlan) { p.progs[i].Off = begin })
		}
		checkPlan(t, impl.ErrEnd, func(p *elfPlan) { p.progs[1].Off, p.progs[1].Filesz = begin, 0 })
	}
	im, code := impl.ReadElf(plainPlan().changed(func(p *elfPlan) { p.progs[0].Off, p.progs[1].Off = 0, 1 }).text())
	want := plainPlan().text()
	if code != impl.OK || im.Segments[0].Data != want[:24]+want[24:64] || im.Segments[1].Data != "ELF\x02" {
		t.Errorf("Data in the head are %s, %d", toldImage(im), code)
	}
}

// TestLengthsOfData has Data of each length: up to the text's end, beyond it and below 0.
func TestLengthsOfData(t *testing.T) {
	for length := range uint64(400) {
		code := impl.OK
		if length > 4 {
			code = impl.ErrEnd
		}
		checkPlan(t, code, func(p *elfPlan) { p.progs[1].Filesz = length })
		// With bytes enough behind them they may have as many as the segment.
		code = impl.OK
		if length > 300 {
			code = impl.ErrSegment
		}
		checkPlan(t, code, func(p *elfPlan) { p.progs[1].Filesz, p.rest = length, p.rest+nops(500) })
	}
	for _, length := range slices.Concat(below0, above, []uint64{65536, 1 << 31}) {
		for _, begin := range slices.Concat(below0, above, []uint64{0, 64, 176, 240, 244, 245}) {
			for i := range 2 {
				checkPlan(t, impl.ErrEnd, func(p *elfPlan) { p.progs[i].Off, p.progs[i].Filesz = begin, length })
			}
		}
	}
	// Where the sum of both goes round it lies in the text again.
	for _, n := range slices.Concat(below0, above) {
		for _, sum := range []uint64{0, 4, 244} {
			checkPlan(t, impl.ErrEnd, func(p *elfPlan) { p.progs[1].Off, p.progs[1].Filesz = n, sum-n })
			checkPlan(t, impl.ErrEnd, func(p *elfPlan) { p.progs[1].Off, p.progs[1].Filesz = sum-n, n })
		}
	}
}

// TestNumbersOfTexts has Vaddr and Memsz of eight bytes near their ends.
func TestNumbersOfTexts(t *testing.T) {
	for _, n := range slices.Concat(below0, above) {
		for i := range 2 {
			checkPlan(t, impl.ErrSegment, func(p *elfPlan) { p.progs[i].Vaddr, p.progs[i].Paddr = n, n })
			checkPlan(t, impl.ErrSegment, func(p *elfPlan) { p.progs[i].Memsz = n })
			checkPlan(t, impl.ErrSegment, func(p *elfPlan) { p.progs[i].Vaddr, p.progs[i].Paddr, p.progs[i].Memsz = n, n, 512-n })
			checkPlan(t, impl.ErrSegment, func(p *elfPlan) { p.progs[i].Memsz = 3584 - p.progs[i].Vaddr - n })
			checkPlan(t, impl.ErrSegment, func(p *elfPlan) { p.progs[i].Vaddr = n })
			checkPlan(t, impl.ErrSegment, func(p *elfPlan) { p.progs[i].Paddr = n })
			checkPlan(t, impl.ErrSegment, func(p *elfPlan) { p.progs[i].Align = n })
			checkPlan(t, impl.ErrSegment, func(p *elfPlan) { p.progs[i].Align += n &^ 511 })
		}
		checkPlan(t, impl.ErrMagic, func(p *elfPlan) { p.head.Phoff = n })
		checkPlan(t, impl.ErrMagic, func(p *elfPlan) { p.head.Shoff = n })
	}
	for _, align := range []uint64{0, 1, 128, 255, 257, 512, 4096} {
		checkPlan(t, impl.ErrSegment, func(p *elfPlan) { p.progs[1].Align = align })
	}
	for _, kind := range []elf.ProgType{elf.PT_NULL, elf.PT_DYNAMIC, elf.PT_INTERP, 257, 1<<31 + 1, math.MaxUint32} {
		checkPlan(t, impl.ErrSegment, func(p *elfPlan) { p.progs[0].Type = uint32(kind) })
		checkPlan(t, impl.ErrSegment, func(p *elfPlan) { p.progs[1].Type = uint32(kind) })
	}
}

// TestMoreBytesOfTexts has bytes behind the Data, up to the longest text and one more.
func TestMoreBytesOfTexts(t *testing.T) {
	text := plainPlan().text()
	for _, more := range []int{1, 2, 63, 64, 4096, impl.MaxText - len(text)} {
		checkRead(t, text+strings.Repeat("x", more), impl.OK)
	}
	for _, size := range []int{impl.MaxText + 1, impl.MaxText + 2, 2 * impl.MaxText} {
		checkRead(t, text+strings.Repeat("x", size-len(text)), impl.ErrLong)
		checkRead(t, strings.Repeat("x", size), impl.ErrLong)
	}
	checkRead(t, strings.Repeat("x", impl.MaxText), impl.ErrMagic)
	// Data may end where the longest text ends.
	checkPlan(t, impl.OK, func(p *elfPlan) {
		p.rest += strings.Repeat(hlt, impl.MaxText-len(text))
		p.progs[0].Off = impl.MaxText - 64
	})
	checkPlan(t, impl.ErrEnd, func(p *elfPlan) {
		p.rest += strings.Repeat(hlt, impl.MaxText-len(text))
		p.progs[0].Off = impl.MaxText - 63
	})
}
