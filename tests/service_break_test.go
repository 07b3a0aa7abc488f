package tests

import (
	"math"
	"slices"
	"testing"

	"loop.example/g00664/impl"
)

// grows is the change that Brk is another one, and that pages of noughts are there at offsets where there were none.
func grows(brk int, offsets ...int) func(b *impl.Box) {
	return func(b *impl.Box) {
		b.Brk = brk
		for _, offset := range offsets {
			at := slices.IndexFunc(b.Memory.Pages, func(p impl.Page) bool { return p.Base > 16384+offset })
			b.Memory.Pages = slices.Insert(b.Memory.Pages, at, toldPage(16384+offset, 3, "", "\x00"))
		}
	}
}

// heapBox is startBox with another Heap and Brk.
func heapBox(heap, brk int) impl.Box {
	return withBox(startBox(), func(b *impl.Box) { b.Heap, b.Brk = heap, brk })
}

// heapPages are the offsets of all pages from startBox's Heap on.
var heapPages = []int{1536, 1792, 2048, 2304, 2560, 2816, 3072, 3328}

// TestBreakSteps has steps of startBox's Brk, which is its Heap, 1536.
func TestBreakSteps(t *testing.T) {
	for _, v := range []struct {
		p, brk int
		pages  []int
	}{
		{0, 1536, nil}, {1, 1537, heapPages[:1]}, {255, 1791, heapPages[:1]}, {256, 1792, heapPages[:1]}, {257, 1793, heapPages[:2]}, {300, 1836, heapPages[:2]}, {511, 2047, heapPages[:2]}, {512, 2048, heapPages[:2]}, {513, 2049, heapPages[:3]},
		{1791, 3327, heapPages[:7]}, {1792, 3328, heapPages[:7]}, {1793, 3329, heapPages}, {2047, 3583, heapPages}, {2048, 3584, heapPages},
		// The lowest four bytes count.
		{1 << 32, 1536, nil}, {-1 << 32, 1536, nil}, {math.MinInt, 1536, nil}, {1<<32 + 1, 1537, heapPages[:1]}, {math.MinInt + 2048, 3584, heapPages}, {1<<60 + 256, 1792, heapPages[:1]},
	} {
		checkService(t, withPQ(startBox(), v.p, -1), impl.SvBreak, 1536, grows(v.brk, v.pages...))
	}
	for _, p := range []int{-1, -2, -256, -1536, -2147483648, 2049, 2050, 2304, 2147483647, 2147483648, 4294967295, 1<<32 - 1, 1<<32 + 2049, math.MaxInt, math.MaxInt - 1, math.MinInt + 2049, -1<<32 - 1} {
		checkService(t, withPQ(startBox(), p, 0), impl.SvBreak, -12, stays)
	}
}

// TestBreakUpAndDown has steps in a row: no page goes, and what its bytes are stays.
func TestBreakUpAndDown(t *testing.T) {
	b := startBox()
	b = checkService(t, withPQ(b, 300, 0), impl.SvBreak, 1536, grows(1836, 1536, 1792))
	b = checkService(t, withPQ(b, 1600, 5), impl.SvRead, 5, lays(1600, "hello"))
	b = checkService(t, withPQ(b, -300, 0), impl.SvBreak, 1836, grows(1536))
	b = checkService(t, withPQ(b, 0, 0), impl.SvBreak, 1536, stays)
	b = checkService(t, withPQ(b, -1, 0), impl.SvBreak, -12, stays)
	b = checkService(t, withPQ(b, 1600, 5), impl.SvWrite, 5, func(b *impl.Box) { b.Output = "hello" })
	b = checkService(t, withPQ(b, 100, 0), impl.SvBreak, 1536, grows(1636))
	b = checkService(t, withPQ(b, 412, 0), impl.SvBreak, 1636, grows(2048))
	b = checkService(t, withPQ(b, 1, 0), impl.SvBreak, 2048, grows(2049, 2048))
	b = checkService(t, withPQ(b, -2, 0), impl.SvBreak, 2049, grows(2047))
	b = checkService(t, withPQ(b, 1538, 0), impl.SvBreak, -12, stays)
	b = checkService(t, withPQ(b, -512, 0), impl.SvBreak, -12, stays)
	b = checkService(t, withPQ(b, 1537, 0), impl.SvBreak, 2047, grows(3584, heapPages[3:]...))
	b = checkService(t, withPQ(b, -2048, 0), impl.SvBreak, 3584, grows(1536))
	if len(b.Memory.Pages) != 17 {
		t.Error(toldBox(b))
	}
}

// TestHeapWithinAPage has a Heap that is no multiple of PageSize: the page that has it is there, too, as soon as it begins below Brk.
func TestHeapWithinAPage(t *testing.T) {
	for _, v := range []struct {
		heap, brk, p int
		pages        []int
	}{
		{1700, 1700, 0, heapPages[:1]}, {1700, 1700, 1, heapPages[:1]}, {1700, 1700, 91, heapPages[:1]}, {1700, 1700, 92, heapPages[:1]}, {1700, 1700, 93, heapPages[:2]}, {1537, 1537, 0, heapPages[:1]}, {1791, 1791, 1, heapPages[:1]}, {1791, 1791, 2, heapPages[:2]},
		{1700, 1800, -100, heapPages[:1]}, {1700, 1800, -8, heapPages[:1]}, {1700, 1800, -7, heapPages[:2]}, {1700, 3000, -1300, heapPages[:1]}, {1700, 1700, 1884, heapPages},
		{1792, 1792, 0, nil}, {1792, 1792, 1, heapPages[1:2]}, {2000, 2000, 0, heapPages[1:2]}, {2000, 2000, 100, heapPages[1:3]},
		{3583, 3583, 0, heapPages[7:]}, {3583, 3583, 1, heapPages[7:]}, {3583, 3584, -1, heapPages[7:]}, {3328, 3328, 0, nil}, {3328, 3328, 256, heapPages[7:]}, {3329, 3329, 0, heapPages[7:]}, {3584, 3584, 0, nil},
		{512, 512, 0, nil}, {512, 512, 1024, nil}, {512, 512, 1025, heapPages[:1]}, {600, 600, 0, nil}, {512, 512, 3072, heapPages}, {512, 3584, -3072, nil},
		// Pages ahead of a Brk may lack: a box is right without them.
		{1536, 1800, 0, heapPages[:2]}, {1536, 3584, 0, heapPages}, {1536, 3584, -1792, heapPages[:1]}, {1536, 3584, -2048, nil}, {1536, 1800, -7, heapPages[:2]}, {1536, 1800, -8, heapPages[:1]}, {1536, 1800, -264, nil},
	} {
		checkService(t, withPQ(heapBox(v.heap, v.brk), v.p, 0), impl.SvBreak, v.brk, grows(v.brk+v.p, v.pages...))
	}
	for _, v := range [][3]int{{1700, 1700, -1}, {1700, 1800, -101}, {1700, 1700, 1885}, {3583, 3583, 2}, {3583, 3583, -1}, {3584, 3584, 1}, {3584, 3584, -1}, {3584, 3584, 2147483647}, {3584, 3584, -2147483648}, {512, 512, -1}, {512, 512, 3073}, {512, 3584, -3073}, {512, 3584, -2147483648}, {1700, 1800, -164}} {
		checkService(t, withPQ(heapBox(v[0], v[1]), v[2], 0), impl.SvBreak, -12, stays)
	}
}

// TestPagesThereAlready: a page that is there stays as it is, whatever may be done with it.
func TestPagesThereAlready(t *testing.T) {
	for perm := range 8 {
		b := startBox()
		b.Memory = memory(slices.Concat(b.Memory.Pages[:6], []impl.Page{page(16384+1792, perm), page(16384+2304, 7-perm)}, b.Memory.Pages[6:])...)
		checkService(t, withPQ(b, 256, 0), impl.SvBreak, 1536, grows(1792, 1536))
		checkService(t, withPQ(b, 512, 0), impl.SvBreak, 1536, grows(2048, 1536))
		checkService(t, withPQ(b, 513, 0), impl.SvBreak, 1536, grows(2049, 1536, 2048))
		checkService(t, withPQ(b, 2048, 0), impl.SvBreak, 1536, grows(3584, 1536, 2048, 2560, 2816, 3072, 3328))
		b.Heap, b.Brk = 1900, 1950
		checkService(t, withPQ(b, -50, 0), impl.SvBreak, 1950, grows(1900))
		checkService(t, withPQ(b, 98, 0), impl.SvBreak, 1950, grows(2048))
		checkService(t, withPQ(b, 99, 0), impl.SvBreak, 1950, grows(2049, 2048))
	}
}

// crowdedBox is startBox with more pages elsewhere, up to so many.
func crowdedBox(many int) impl.Box {
	b := startBox()
	b.Memory.Pages = append(b.Memory.Pages, pagesFrom(40960, many-len(b.Memory.Pages), 3).Pages...)
	return b
}

// TestAsManyPagesAsThereMayBe: with MaxPages pages no page can come, and so none does, but where none lacks all is well.
func TestAsManyPagesAsThereMayBe(t *testing.T) {
	for many := 22; many <= 32; many++ {
		b := crowdedBox(many)
		for lacking := range 9 {
			for _, p := range []int{256 * lacking, 256*lacking - 255} {
				switch {
				case p < 0:
					checkService(t, withPQ(b, p, 0), impl.SvBreak, -12, stays)
				case many+lacking > 32:
					checkService(t, withPQ(b, p, 0), impl.SvBreak, -12, stays)
				default:
					checkService(t, withPQ(b, p, 0), impl.SvBreak, 1536, grows(1536+p, heapPages[:lacking]...))
				}
			}
		}
		checkService(t, withPQ(b, 2049, 0), impl.SvBreak, -12, stays)
	}
	// None lacks of those that are asked for, and one does behind them, or between them.
	for gap := range heapPages {
		b := startBox()
		var there []impl.Page
		for i, offset := range heapPages {
			if i != gap {
				there = append(there, page(16384+offset, 1))
			}
		}
		b.Memory = memory(slices.Concat(b.Memory.Pages[:6], there, b.Memory.Pages[6:], pagesFrom(40960, 16, 7).Pages)...)
		if len(b.Memory.Pages) != 32 {
			t.Fatal(len(b.Memory.Pages))
		}
		checkService(t, withPQ(b, 256*gap, 0), impl.SvBreak, 1536, grows(1536+256*gap))
		checkService(t, withPQ(b, 256*gap+1, 0), impl.SvBreak, -12, stays)
		checkService(t, withPQ(b, 2048, 0), impl.SvBreak, -12, stays)
		b.Brk = 3584
		checkService(t, withPQ(b, 0, 0), impl.SvBreak, -12, stays)
		checkService(t, withPQ(b, -2048, 0), impl.SvBreak, 3584, grows(1536))
		b.Heap = 1536 + 256*gap + 256
		checkService(t, withPQ(b, 0, 0), impl.SvBreak, 3584, stays)
		b.Heap--
		checkService(t, withPQ(b, 0, 0), impl.SvBreak, -12, stays)
	}
}

// TestBreaksOfAll holds steps from many Heaps and Brks against the tests' own.
func TestBreaksOfAll(t *testing.T) {
	places := []int{512, 513, 767, 768, 1000, 1535, 1536, 1537, 2047, 2048, 2049, 3327, 3328, 3329, 3583, 3584}
	counts := map[bool]int{}
	for _, many := range []int{9, 26, 32} {
		crowded := crowdedBox(many)
		for _, heap := range places {
			for _, brk := range places {
				if brk < heap {
					continue
				}
				for _, then := range append([]int{heap - 1, 511, 3585, brk + math.MaxInt32, brk + math.MinInt32}, places...) {
					b := withPQ(crowded, then-brk, 0)
					b.Heap, b.Brk = heap, brk
					_, answer, _ := checkAnswer(t, b, impl.SvBreak)
					counts[answer == brk]++
				}
			}
		}
	}
	if counts[true] < 1000 || counts[false] < 1000 {
		t.Error("the steps are one-sided:", counts)
	}
}
