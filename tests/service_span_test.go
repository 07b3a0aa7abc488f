package tests

import (
	"math"
	"slices"
	"testing"

	"loop.example/g00664/impl"
)

func checkSpanOK(t *testing.T, m impl.Memory, offset, n, perm int, want bool, code int) {
	t.Helper()
	if yes, c := impl.SpanOK(m, offset, n, perm); yes != want || c != code {
		t.Errorf("SpanOK(%s, %d, %d, %d) = %v, %q, want %v, %q", toldLoaded(impl.Loaded{Memory: m}), offset, n, perm, yes, impl.CodeWord(c), want, impl.CodeWord(code))
	}
}

// spanMemories are memories with pages of all Perms in the sandbox, and ones that have pages beside it.
func spanMemories() []impl.Memory {
	patches := memory(page(16128, 7), page(16384, 7))
	for i, perm := range []int{1, 3, 2, 6, 4, 5, 7, 0, 7} {
		patches.Pages = append(patches.Pages, page(16640+256*i, perm))
	}
	patches.Pages = append(patches.Pages, page(19456, 3), page(19968, 1), page(20224, 2), page(20480, 7))
	return []impl.Memory{{}, startMemory(), patches, pagesFrom(16384, 16, 3), pagesFrom(16384-8*256, 32, 7), pagesFrom(16384, 16, 0), pagesFrom(0, 32, 7)}
}

// TestSpans holds spans that begin and end about the pages' ends against the tests' own.
func TestSpans(t *testing.T) {
	var places []int
	for offset := 0; offset <= 4096; offset += 256 {
		places = append(places, offset-1, offset, offset+1, offset+100)
	}
	counts := map[bool]int{}
	for _, m := range spanMemories() {
		perms := sandboxPerms(m)
		for _, offset := range places {
			for _, n := range []int{-1, 0, 1, 2, 155, 156, 157, 255, 256, 257, 512, 513, 1024, 4095 - offset, 4096 - offset, 4097 - offset, 4096, 4097} {
				for perm := range 8 {
					want := spanBy(&perms, offset, n, perm)
					checkSpanOK(t, m, offset, n, perm, want, impl.OK)
					counts[want]++
				}
			}
		}
	}
	if counts[true] < 10000 || counts[false] < 10000 {
		t.Error("the spans are one-sided:", counts)
	}
}

// TestToldSpans has the edges that chapter 13 names.
func TestToldSpans(t *testing.T) {
	m, whole := startMemory(), pagesFrom(16384-256, 18, 7)
	for _, v := range []struct {
		m               impl.Memory
		offset, n, perm int
		want            bool
	}{
		{whole, 0, 0, 7, true}, {whole, 0, 1, 1, true}, {whole, 0, 4096, 1, true}, {whole, 0, 4097, 1, false}, {whole, 1, 4095, 2, true}, {whole, 1, 4096, 2, false},
		{whole, 4095, 1, 4, true}, {whole, 4095, 2, 4, false}, {whole, 4096, 0, 7, true}, {whole, 4096, 1, 7, false}, {whole, 4097, 0, 7, false}, {whole, 4097, -1, 7, false},
		{whole, -1, 0, 7, false}, {whole, -1, 1, 7, false}, {whole, -1, 2, 7, false}, {whole, 0, -1, 7, false}, {whole, 4096, -1, 7, false}, {whole, 100, -100, 7, false}, {whole, -256, 256, 7, false},
		{m, 0, 0, 1, true}, {m, 0, 0, 0, true}, {m, 4096, 0, 0, true}, {m, 2000, 0, 2, true}, {m, 2000, 1, 2, false}, {m, 16384, 0, 7, false}, {m, 17408, 1, 1, false},
		// Over the end of a page into one that is there, that lacks, and that has another Perm.
		{m, 1279, 2, 3, true}, {m, 1535, 1, 2, true}, {m, 1535, 2, 2, false}, {m, 1535, 2, 7, false}, {m, 1023, 2, 1, true}, {m, 1023, 2, 2, false}, {m, 1023, 1, 2, false}, {m, 1024, 1, 2, true}, {m, 511, 2, 4, true}, {m, 511, 2, 1, false}, {m, 511, 2, 5, true},
		{m, 255, 2, 4, false}, {m, 256, 1, 4, true}, {m, 255, 1, 4, false}, {m, 3583, 2, 3, false}, {m, 3584, 512, 3, true}, {m, 3584, 513, 3, false},
		// Any bit of perm will do, and none is not one.
		{m, 512, 1, 5, true}, {m, 512, 1, 6, true}, {m, 512, 1, 3, true}, {m, 512, 1, 2, false}, {m, 512, 1, 0, false}, {m, 1024, 512, 1, true}, {m, 1024, 512, 4, false}, {m, 1024, 512, 5, true}, {m, 512, 1024, 1, true}, {m, 512, 1024, 6, false}, {m, 512, 1024, 7, true}, {m, 256, 1280, 5, true}, {m, 256, 1281, 5, false},
	} {
		checkSpanOK(t, v.m, v.offset, v.n, v.perm, v.want, impl.OK)
	}
}

// TestEachByteOfSpans: that one page lacks, or has another Perm, shows of all spans that have a byte of it, and of no others.
func TestEachByteOfSpans(t *testing.T) {
	for gap := 0; gap < 4096; gap += 256 {
		full := pagesFrom(16384, 16, 3)
		without := withPages(full, func(pages []impl.Page) []impl.Page { return slices.Delete(pages, gap/256, gap/256+1) })
		closed := withPages(full, func(pages []impl.Page) []impl.Page {
			pages[gap/256].Perm = 4
			return pages
		})
		for _, m := range []impl.Memory{without, closed} {
			for _, end := range []int{gap - 1, gap, gap + 1, gap + 255, gap + 256, gap + 257, 4096} {
				for _, offset := range []int{0, gap - 257, gap - 256, gap - 2, gap - 1, gap, gap + 1, gap + 255, gap + 256, gap + 257} {
					if !within(offset, 0, end) || end > 4096 {
						continue
					}
					free := end <= gap || offset >= gap+256 || offset == end
					checkSpanOK(t, m, offset, end-offset, 1, free, impl.OK)
					checkSpanOK(t, m, offset, end-offset, 2, free, impl.OK)
				}
			}
		}
	}
}

// TestFarSpans has integers whose sums would go round, and codes in their order.
func TestFarSpans(t *testing.T) {
	m := pagesFrom(16384, 16, 7)
	far := slices.Concat(farNumbers, farAddresses, []int{math.MinInt + 4096, math.MaxInt - 4096, math.MaxInt - 16384, math.MinInt + 16384, -16384, 1<<32 + 100, 1 << 62, -1 << 62})
	for _, a := range far {
		for _, b := range slices.Concat(far, []int{0, 1, 4096, -1}) {
			for _, perm := range []int{0, 1, 7} {
				checkSpanOK(t, m, a, b, perm, false, impl.OK)
				checkSpanOK(t, m, b, a, perm, false, impl.OK)
			}
		}
	}
	for _, perm := range noPerms {
		for _, offset := range slices.Concat(far, []int{0, 100, 4096}) {
			for _, n := range []int{0, 1, -1, 4097, math.MaxInt} {
				checkSpanOK(t, m, offset, n, perm, false, impl.ErrRange)
				checkSpanOK(t, impl.Memory{}, offset, n, perm, false, impl.ErrRange)
			}
		}
	}
	for _, m := range slices.Concat(wrongMemories(), wrongLoadedMemories(startMemory())) {
		for _, perm := range []int{0, 1, 7, 8, -1, math.MinInt} {
			for _, n := range []int{0, 1, -1, 4097} {
				checkSpanOK(t, m, 0, n, perm, false, impl.ErrBad)
				checkSpanOK(t, m, n, 0, perm, false, impl.ErrBad)
			}
		}
	}
}
