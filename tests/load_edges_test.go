package tests

import (
	"math"
	"slices"
	"strings"
	"testing"

	"loop.example/g00664/impl"
)

// mapped is what MapImage makes of an image that is right.
func mapped(t *testing.T, im impl.Image) impl.Loaded {
	t.Helper()
	l, code := impl.MapImage(im)
	if code != impl.OK {
		t.Fatalf("MapImage(%s) has the code %q", toldImage(im), impl.CodeWord(code))
	}
	return l
}

// checkBytes looks at what stands at an offset of the sandbox, and at the Perm there.
func checkBytes(t *testing.T, m impl.Memory, offset int, want string, perm int) {
	t.Helper()
	if got, code := impl.GetBytes(m, 16384+offset, len(want)); got != want || code != impl.OK {
		t.Errorf("at %d stand % x, %q, want % x", offset, got, impl.CodeWord(code), want)
	}
	if got, code := impl.PermAt(m, 16384+offset); got != perm || code != impl.OK {
		t.Errorf("the Perm at %d is %d, %q, want %d", offset, got, impl.CodeWord(code), perm)
	}
}

// TestBehindCode has code of each number of bundles, at each place: hlts stand behind it up to the end of its last page.
func TestBehindCode(t *testing.T) {
	for _, vaddr := range imagePlaces {
		for bundles := 1; 32*bundles <= 3584-vaddr; bundles++ {
			size, whole := 32*bundles, (bundles+7)/8*256
			l := mapped(t, imageOf(vaddr, dataSegment(5, vaddr, size, nops(size))))
			checkBytes(t, l.Memory, vaddr, nops(size)+strings.Repeat(hlt, whole-size), 5)
			if l.Size != whole || l.TextAt != 16384+vaddr || l.Heap != vaddr+whole || l.Entry != l.TextAt || len(l.Memory.Pages) != 5+whole/256 {
				t.Errorf("%d bytes of code at %d: %s", size, vaddr, toldLoaded(l))
			}
			if size%256 == 0 && vaddr+size < 3584 {
				if perm, code := impl.PermAt(l.Memory, l.TextAt+size); code != impl.ErrPage {
					t.Error("there is a page behind the code", vaddr, size, perm)
				}
			}
		}
	}
}

// TestBehindData has Data of many lengths in segments of many: noughts stand behind them up to the end of the last page.
func TestBehindData(t *testing.T) {
	for _, flags := range []int{4, 6} {
		perm := map[int]int{4: 1, 6: 3}[flags]
		for _, memsz := range []int{1, 2, 255, 256, 257, 511, 512, 513, 1023, 1024, 1025, 2560} {
			for _, size := range []int{0, 1, 31, 32, 255, 256, 257, memsz - 1, memsz} {
				if size > memsz {
					continue
				}
				whole := (memsz + 255) / 256 * 256
				data := strings.Repeat("d", size)
				l := mapped(t, withSegment(programOf(512, nop), dataSegment(flags, 1024, memsz, data)))
				checkBytes(t, l.Memory, 1024, data+strings.Repeat("\x00", whole-size), perm)
				checkBytes(t, l.Memory, 1024+whole-1, (data + strings.Repeat("\x00", whole-size))[whole-1:], perm)
				if l.Heap != 1024+whole || len(l.Memory.Pages) != 6+whole/256 {
					t.Errorf("%d bytes of data: %s", memsz, toldLoaded(l))
				}
			}
		}
	}
}

// TestPagesOfSegments has Memsz that ends at a page's end, one byte ahead of it, and one beyond.
func TestPagesOfSegments(t *testing.T) {
	for _, vaddr := range imagePlaces[1:] {
		for memsz := 1; memsz <= 3584-vaddr; memsz++ {
			if r := memsz % 256; !slices.Contains([]int{0, 1, 2, 128, 255}, r) {
				continue
			}
			many := 1
			for 256*many < memsz {
				many++
			}
			l := mapped(t, withSegment(programOf(512, nop), dataSegment(6, vaddr, memsz, "")))
			for i := range many {
				checkBytes(t, l.Memory, vaddr+256*i, strings.Repeat("\x00", 256), 3)
			}
			if len(l.Memory.Pages) != 6+many || l.Heap != vaddr+256*many {
				t.Errorf("%d bytes at %d: %s", memsz, vaddr, toldLoaded(l))
			}
		}
	}
}

// TestFlagsOfPages has all orders of the three kinds, the code at each place.
func TestFlagsOfPages(t *testing.T) {
	j := newJudge(t)
	perms := map[int]int{4: 1, 5: 5, 6: 3}
	for number := range 81 {
		kinds := []int{4 + number%3, 4 + number/3%3, 4 + number/9%3, 4 + number/27}
		run := slices.Index(kinds, 5)
		if run < 0 || slices.Index(kinds[run+1:], 5) >= 0 {
			continue
		}
		im := imageOf(512 + 768*run)
		for i, flags := range kinds {
			im.Segments = append(im.Segments, dataSegment(flags, 512+768*i, 512, strings.Repeat(hlt, 512)))
		}
		l := mapped(t, im)
		for i, flags := range kinds {
			checkBytes(t, l.Memory, 512+768*i, strings.Repeat(hlt, 512), perms[flags])
			checkBytes(t, l.Memory, 768+768*i, strings.Repeat(hlt, 256), perms[flags])
			if i < 3 {
				if perm, code := impl.PermAt(l.Memory, 16384+1024+768*i); perm != 0 || code != impl.ErrPage {
					t.Error("there is a page between segments", perm, code)
				}
			}
		}
		if l.TextAt != 16384+512+768*run || l.Size != 512 || l.Heap != 3328 || l.Entry != l.TextAt {
			t.Errorf("the code is segment %d: %s", run, toldLoaded(l))
		}
		j.load(im)
	}
	if j.codes[impl.OK] != 32 {
		t.Error("so many orders were taken:", j.codes)
	}
}

// TestSegmentsUpToTheStack has segments that end at StackAt, or a byte ahead.
func TestSegmentsUpToTheStack(t *testing.T) {
	j := newJudge(t)
	for _, im := range []impl.Image{
		programOf(3328, strings.Repeat(hlt, 256)), programOf(3328, strings.Repeat(hlt, 224)), programOf(512, strings.Repeat(hlt, 3072)), programOf(512, strings.Repeat(hlt, 3040)),
		withSegment(programOf(512, hlt), dataSegment(6, 768, 2816, "")), withSegment(programOf(512, hlt), dataSegment(4, 768, 2815, strings.Repeat("d", 2815))), withSegment(programOf(512, hlt), dataSegment(6, 3328, 256, strings.Repeat("d", 256))),
	} {
		if l := mapped(t, im); l.Heap != 3584 {
			t.Errorf("Heap of %s is %d", toldImage(im), l.Heap)
		}
		checkBytes(t, mapped(t, im).Memory, 3584, strings.Repeat("\x00", 512), 3)
		if code := j.load(im); code != impl.OK {
			t.Errorf("%s has the code %q", toldImage(im), impl.CodeWord(code))
		}
	}
	for _, size := range []int{3073, 3104, 3328, 4096, 65536, 65537} {
		im := imageOf(512, dataSegment(5, 512, size, strings.Repeat(hlt, size)))
		checkMap(t, im, impl.Loaded{}, impl.ErrSegment)
		checkLoaded(t, im, impl.Loaded{}, 0, impl.ErrSegment)
	}
	for _, memsz := range []int{257, 512, 3072, math.MaxInt} {
		im := withSegment(programOf(512, hlt), dataSegment(6, 3328, memsz, ""))
		checkMap(t, im, impl.Loaded{}, impl.ErrSegment)
		checkLoaded(t, im, impl.Loaded{}, 0, impl.ErrSegment)
	}
}

// TestEntriesOfLoaded has each Entry of code: an address then.
func TestEntriesOfLoaded(t *testing.T) {
	for _, vaddr := range []int{512, 1024, 2304} {
		im := withSegment(programOf(vaddr, strings.Repeat(hlt, 544)), dataSegment(6, 3328, 1, ""))
		for entry := vaddr - 64; entry < vaddr+800; entry++ {
			im.Entry = entry
			l, code := impl.MapImage(im)
			taken, where, c := impl.LoadImage(im)
			if entry%32 != 0 || !within(entry, vaddr, vaddr+543) {
				checkMap(t, im, impl.Loaded{}, impl.ErrEntry)
				checkLoaded(t, im, impl.Loaded{}, 0, impl.ErrEntry)
				continue
			}
			if code != impl.OK || l.Entry != 16384+entry || where != 0 || c != impl.OK || taken.Entry != 16384+entry || !impl.LoadedOK(taken) {
				t.Errorf("Entry %d: %s, %d; %s, %d, %d", entry, toldLoaded(l), code, toldLoaded(taken), where, c)
			}
		}
	}
}

// TestWrongImagesAreNotLoaded has images that are not right, of each of CheckImage's codes; no segment is named.
func TestWrongImagesAreNotLoaded(t *testing.T) {
	j := newJudge(t)
	for _, im := range oddImages() {
		j.load(im)
	}
	good := dataSegment(6, 1024, 9, "")
	for _, v := range []struct {
		im   impl.Image
		code int
	}{
		{impl.Image{}, impl.ErrNone}, {imageOf(512), impl.ErrNone}, {imageOf(512, codeSegment(512, 32), good, good, good, good), impl.ErrMany},
		{imageOf(512, codeSegment(512, 32), dataSegment(7, 768, 9, "")), impl.ErrPerm}, {imageOf(512, codeSegment(512, 32), dataSegment(1, 768, 9, ""), good), impl.ErrPerm},
		{imageOf(512, codeSegment(512, 32), good, good), impl.ErrSegment}, {imageOf(512, codeSegment(512, 32), dataSegment(6, 769, 9, "")), impl.ErrSegment}, {imageOf(512, codeSegment(512, 32), dataSegment(6, 768, 0, "")), impl.ErrSegment}, {imageOf(512, codeSegment(512, 32), dataSegment(6, 768, 3, "data")), impl.ErrSegment},
		{imageOf(512, codeSegment(512, 32), codeSegment(768, 32)), impl.ErrText}, {imageOf(512, dataSegment(5, 512, 33, nops(33))), impl.ErrText}, {imageOf(512, dataSegment(5, 512, 64, nops(32))), impl.ErrText}, {imageOf(512, dataSegment(4, 512, 32, nops(32))), impl.ErrText},
		{imageOf(513, codeSegment(512, 32)), impl.ErrEntry}, {imageOf(544, codeSegment(512, 32)), impl.ErrEntry}, {imageOf(1024, codeSegment(512, 32), good), impl.ErrEntry}, {imageOf(16896, codeSegment(512, 32)), impl.ErrEntry},
	} {
		checkMap(t, v.im, impl.Loaded{}, v.code)
		checkLoaded(t, v.im, impl.Loaded{}, 0, v.code)
		// What its code does comes behind all that.
		for i := range v.im.Segments {
			v.im.Segments[i].Data = strings.ReplaceAll(v.im.Segments[i].Data, hlt, "\xc3")
		}
		checkMap(t, v.im, impl.Loaded{}, v.code)
		checkLoaded(t, v.im, impl.Loaded{}, 0, v.code)
	}
	j.checkCodes(2, impl.ErrNone, impl.ErrMany, impl.ErrPerm, impl.ErrSegment, impl.ErrText, impl.ErrEntry)
}
