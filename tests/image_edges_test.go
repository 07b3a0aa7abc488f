package tests

import (
	"math"
	"slices"
	"strings"
	"testing"

	"loop.example/g00664/impl"
)

// checkImageIf looks at an image that is right if that holds, and else has that code.
func checkImageIf(t *testing.T, right bool, im impl.Image, where, code int) {
	t.Helper()
	if right {
		where, code = 0, impl.OK
	}
	checkImage(t, im, where, code)
}

// TestCountsOfSegments has images of no segments, of as many as there may be, and of more; more than there may be in a list of its own, too.
func TestCountsOfSegments(t *testing.T) {
	full := []impl.Segment{codeSegment(512, 32), dataSegment(4, 768, 1, "a"), dataSegment(6, 1024, 1, ""), dataSegment(6, 1280, 1, "")}
	for n := 1; n <= 4; n++ {
		checkImage(t, imageOf(512, full[:n]...), 0, impl.OK)
	}
	for _, entry := range slices.Concat(farNumbers, []int{0, 1, 512}) {
		checkImage(t, impl.Image{Entry: entry}, 0, impl.ErrNone)
		checkImage(t, impl.Image{Entry: entry, Segments: []impl.Segment{}}, 0, impl.ErrNone)
		checkImage(t, impl.Image{Entry: entry, Segments: full[:0]}, 0, impl.ErrNone)
	}
	for _, more := range []impl.Segment{{}, dataSegment(6, 1536, 1, ""), dataSegment(7, 512, 1, ""), codeSegment(1536, 32)} {
		checkImage(t, imageOf(512, append(slices.Clone(full), more)...), 0, impl.ErrMany)
		checkImage(t, imageOf(512, append([]impl.Segment{more}, full...)...), 0, impl.ErrMany)
	}
	for _, n := range []int{5, 6, 256, 4096, 4097, 65536, 65537, 65540} {
		checkImage(t, imageOf(512, make([]impl.Segment, n)...), 0, impl.ErrMany)
	}
}

// TestFlagsOfSegments has each Flags in each place of a list.
func TestFlagsOfSegments(t *testing.T) {
	for _, flags := range slices.Concat(upTo(70), farNumbers, []int{-4, -5, -6, 256 + 4, 65536 + 5, 1<<32 + 4, 1<<32 + 5, 1<<32 + 6}) {
		data, code := flags == 4 || flags == 6, impl.ErrPerm
		if flags == 5 {
			code = impl.ErrText
		}
		for i := range 3 {
			list := []impl.Segment{dataSegment(4, 512, 20, "a"), dataSegment(6, 768, 20, "b"), dataSegment(4, 1024, 20, "c")}
			list[i].Flags = flags
			ahead, behind := append([]impl.Segment{codeSegment(512, 32)}, list...), append(list, codeSegment(3328, 32))
			for k := range 3 {
				ahead[k+1].Vaddr += 256
			}
			checkImageIf(t, data, imageOf(512, ahead...), i+1, code)
			checkImageIf(t, data, imageOf(3328, behind...), i, code)
		}
		if data {
			code = impl.ErrText
		}
		checkImageIf(t, flags == 5, imageOf(512, dataSegment(flags, 512, 32, nops(32))), 0, code)
	}
}

// TestPlacesOfSegments has each place in the sandbox, and others: pages from TextAt on, below StackAt.
func TestPlacesOfSegments(t *testing.T) {
	for _, vaddr := range slices.Concat(farNumbers, []int{-512, -256, 1<<32 + 512, math.MinInt + 512, math.MaxInt - 255}) {
		checkImage(t, imageOf(vaddr, codeSegment(vaddr, 32)), 0, impl.ErrSegment)
		checkImage(t, imageOf(512, codeSegment(512, 32), dataSegment(6, vaddr, 1, "")), 1, impl.ErrSegment)
	}
	for vaddr := -300; vaddr < 4400; vaddr++ {
		right := vaddr%256 == 0 && within(vaddr, 512, 3583)
		checkImageIf(t, right, imageOf(vaddr, codeSegment(vaddr, 32)), 0, impl.ErrSegment)
		checkImageIf(t, right && vaddr > 512, imageOf(512, codeSegment(512, 32), dataSegment(6, vaddr, 1, "")), 1, impl.ErrSegment)
	}
	checkImage(t, imageOf(512, codeSegment(512, 32), dataSegment(4, 3328, 256, "")), 0, impl.OK)
	checkImage(t, imageOf(512, codeSegment(512, 32), dataSegment(4, 3584, 1, "")), 1, impl.ErrSegment)
	checkImage(t, imageOf(3328, codeSegment(3328, 256)), 0, impl.OK)
	checkImage(t, imageOf(256, codeSegment(256, 32)), 0, impl.ErrSegment)
	checkImage(t, imageOf(520, codeSegment(520, 32)), 0, impl.ErrSegment)
}

// TestSegmentsBehindOneAnother has pairs and threes: each begins behind all pages of the one ahead.
func TestSegmentsBehindOneAnother(t *testing.T) {
	for memsz := 1; memsz <= 2816; memsz += 1 + memsz%3*84 {
		end := 512 + (memsz+255)/256*256
		for _, vaddr := range imagePlaces {
			im := imageOf(vaddr, dataSegment(6, 512, memsz, ""), codeSegment(vaddr, 32))
			checkImageIf(t, vaddr >= end, im, 1, impl.ErrSegment)
		}
	}
	for _, v := range []struct {
		memsz, vaddr int
		right        bool
	}{
		{255, 768, true}, {256, 768, true}, {257, 768, false}, {257, 1024, true}, {512, 1024, true}, {513, 1024, false}, {1, 512, false}, {1, 256, false}, {300, 768, false}, {256, 769, false},
	} {
		checkImageIf(t, v.right, imageOf(v.vaddr, dataSegment(6, 512, v.memsz, ""), codeSegment(v.vaddr, 32)), 1, impl.ErrSegment)
		checkImageIf(t, v.right, imageOf(3328, dataSegment(6, 512, v.memsz, ""), dataSegment(4, v.vaddr, 1, ""), codeSegment(3328, 32)), 1, impl.ErrSegment)
	}
	// Segments that do not lie over one another, but do not rise.
	checkImage(t, imageOf(768, codeSegment(768, 32), dataSegment(6, 512, 1, "")), 1, impl.ErrSegment)
	checkImage(t, imageOf(768, dataSegment(6, 512, 1, ""), codeSegment(768, 32)), 0, impl.OK)
	checkImage(t, imageOf(512, codeSegment(512, 32), dataSegment(6, 1024, 1, ""), dataSegment(6, 768, 1, "")), 2, impl.ErrSegment)
	// One ahead that lies over a segment but one behind it.
	checkImage(t, imageOf(512, codeSegment(512, 32), dataSegment(6, 768, 600, ""), dataSegment(6, 1280, 1, "")), 2, impl.ErrSegment)
	checkImage(t, imageOf(512, codeSegment(512, 32), dataSegment(6, 768, 600, ""), dataSegment(6, 1536, 1, "")), 0, impl.OK)
}

// TestSizesOfSegments has each Memsz, at each place: from 1 up to StackAt.
func TestSizesOfSegments(t *testing.T) {
	for _, vaddr := range imagePlaces[1:] {
		room := 3584 - vaddr
		for _, memsz := range slices.Concat(farNumbers, []int{-512, -256, -2, -1, 0, 1, 2, 255, 256, room - 1, room, room + 1, room + 255, room + 256, 3072, 3584, 4096, 1<<32 + 1, math.MaxInt - vaddr, math.MaxInt - vaddr + 1, math.MinInt - vaddr + 3584, math.MaxInt - vaddr - 255}) {
			right := within(memsz, 1, room)
			checkImageIf(t, right, imageOf(512, codeSegment(512, 32), dataSegment(6, vaddr, memsz, "")), 1, impl.ErrSegment)
			checkImageIf(t, right, imageOf(512, codeSegment(512, 32), dataSegment(4, vaddr, memsz, "")), 1, impl.ErrSegment)
		}
	}
	for memsz := -40; memsz <= 3200; memsz++ {
		code := impl.ErrSegment
		if within(memsz, 1, 3072) {
			code = impl.ErrText
		}
		checkImageIf(t, code == impl.ErrText && memsz%32 == 0, imageOf(512, codeSegment(512, memsz)), 0, code)
		checkImageIf(t, within(memsz, 1, 2816), imageOf(512, codeSegment(512, 32), dataSegment(6, 768, memsz, "")), 1, impl.ErrSegment)
	}
	for _, memsz := range farNumbers {
		checkImage(t, imageOf(512, dataSegment(5, 512, memsz, nops(32))), 0, impl.ErrSegment)
	}
}

// TestDataOfSegments has Data of no bytes, of as many as the segment has, and of more.
func TestDataOfSegments(t *testing.T) {
	for _, flags := range []int{4, 6} {
		for _, memsz := range []int{1, 2, 31, 32, 255, 256, 257, 2816} {
			for _, size := range []int{0, 1, 31, memsz - 1, memsz, memsz + 1, memsz + 256, 3073, 65536, 65537, 70000} {
				im := imageOf(512, codeSegment(512, 32), dataSegment(flags, 768, memsz, strings.Repeat("d", size)))
				checkImageIf(t, size <= memsz, im, 1, impl.ErrSegment)
			}
		}
	}
	for _, memsz := range []int{1, 31, 32, 33, 64, 96, 256, 288, 1000, 1024, 3072} {
		for _, size := range []int{0, 1, memsz - 32, memsz - 1, memsz, memsz + 1, memsz + 32, 3073, 65536, 65537, 70000} {
			code := impl.ErrText
			if size > memsz {
				code = impl.ErrSegment
			}
			checkImageIf(t, size == memsz && memsz%32 == 0, imageOf(512, dataSegment(5, 512, memsz, nops(max(size, 0)))), 0, code)
		}
	}
}

// TestSegmentsOfCode has segments of FlagsRun that are none, that are second, and images without one.
func TestSegmentsOfCode(t *testing.T) {
	code, read, data := codeSegment(512, 64), dataSegment(4, 512, 64, nops(64)), dataSegment(6, 512, 64, nops(64))
	at := func(s impl.Segment, vaddr int) impl.Segment {
		s.Vaddr = vaddr
		return s
	}
	checkImage(t, imageOf(512, read), 0, impl.ErrText)
	checkImage(t, imageOf(512, data, at(read, 768), at(data, 1024), at(data, 1280)), 0, impl.ErrText)
	checkImage(t, imageOf(512, code, at(code, 768)), 1, impl.ErrText)
	checkImage(t, imageOf(768, code, at(code, 768)), 1, impl.ErrText)
	checkImage(t, imageOf(512, code, at(data, 768), at(code, 1024)), 2, impl.ErrText)
	checkImage(t, imageOf(768, data, at(code, 768), at(read, 1024), at(code, 1280)), 3, impl.ErrText)
	checkImage(t, imageOf(512, code, at(code, 768), at(code, 1024)), 1, impl.ErrText)
	checkImage(t, imageOf(512, code, dataSegment(5, 768, 33, nops(33))), 1, impl.ErrText)
	checkImage(t, imageOf(768, read, dataSegment(5, 768, 64, nops(32))), 1, impl.ErrText)
	checkImage(t, imageOf(768, read, dataSegment(5, 768, 33, nops(33))), 1, impl.ErrText)
	checkImage(t, imageOf(768, read, dataSegment(5, 768, 32, nops(33))), 1, impl.ErrSegment)
}

// TestEntries has each Entry in the sandbox, and others: a bundle of the code.
func TestEntries(t *testing.T) {
	list := []struct {
		segments []impl.Segment
		from, to int
	}{
		{[]impl.Segment{codeSegment(512, 32)}, 512, 544},
		{[]impl.Segment{codeSegment(512, 3072)}, 512, 3584},
		{[]impl.Segment{dataSegment(4, 512, 256, nops(256)), codeSegment(768, 96), dataSegment(6, 1024, 64, nops(64))}, 768, 864},
		{[]impl.Segment{dataSegment(6, 512, 1, ""), dataSegment(4, 768, 1, ""), dataSegment(4, 1024, 1, ""), codeSegment(3328, 256)}, 3328, 3584},
	}
	for _, v := range list {
		for entry := -64; entry < 4200; entry++ {
			right := entry%32 == 0 && v.from <= entry && entry < v.to
			checkImageIf(t, right, imageOf(entry, v.segments...), 0, impl.ErrEntry)
		}
		for _, entry := range slices.Concat(farNumbers, []int{math.MaxInt - 31, math.MinInt + 512, math.MinInt + v.from, 1<<32 + v.from, -v.from, v.from + 4096, v.from + 16384}) {
			checkImage(t, imageOf(entry, v.segments...), 0, impl.ErrEntry)
		}
	}
}
