package tests

import (
	"math"
	"slices"
	"strings"
	"testing"

	"loop.example/g00664/impl"
)

func checkPrivate(t *testing.T, m impl.Memory, want bool, code int) {
	t.Helper()
	if yes, c := impl.PrivateOK(m); yes != want || c != code {
		t.Errorf("PrivateOK(%s) = %v, %q, want %v, %q", toldLoaded(impl.Loaded{Memory: m}), yes, impl.CodeWord(c), want, impl.CodeWord(code))
	}
}

// withPages is a memory whose pages are other ones.
func withPages(m impl.Memory, change func(pages []impl.Page) []impl.Page) impl.Memory {
	return impl.Memory{Pages: change(slices.Clone(m.Pages))}
}

// withByte is a memory in which the byte at an address is another one.
func withByte(m impl.Memory, address int) impl.Memory {
	b := bytesByHand(m, address, 1)[0]
	return laidByHand(m, address, string([]byte{b + 1}))
}

// TestPrivateOK: both pages are there, with all their bytes; other pages, and what may be done with any page, do not count.
func TestPrivateOK(t *testing.T) {
	m := framed(toldPage(16896, 5, "", hlt))
	last := len(m.Pages) - 1
	checkPrivate(t, m, true, impl.OK)
	checkPrivate(t, memory(m.Pages[0], m.Pages[last]), true, impl.OK)
	checkPrivate(t, withPages(m, func(pages []impl.Page) []impl.Page { return pages[1:] }), false, impl.OK)
	checkPrivate(t, withPages(m, func(pages []impl.Page) []impl.Page { return pages[:last] }), false, impl.OK)
	checkPrivate(t, withPages(m, func(pages []impl.Page) []impl.Page { return pages[1:last] }), false, impl.OK)
	checkPrivate(t, impl.Memory{}, false, impl.OK)
	for _, k := range []int{0, last} {
		for i := range 256 {
			checkPrivate(t, withByte(m, m.Pages[k].Base+i), false, impl.OK)
		}
		for perm := range 8 {
			checkPrivate(t, withPages(m, func(pages []impl.Page) []impl.Page {
				pages[k].Perm = perm
				return pages
			}), true, impl.OK)
		}
		checkPrivate(t, withPages(m, func(pages []impl.Page) []impl.Page {
			pages[k].Data = strings.Repeat("\x00", 256)
			return pages
		}), false, impl.OK)
		// A page of the same bytes elsewhere is not that page.
		checkPrivate(t, withPages(m, func(pages []impl.Page) []impl.Page {
			pages[k].Base += 256
			return pages
		}), false, impl.OK)
	}
	checkPrivate(t, withPages(m, func(pages []impl.Page) []impl.Page {
		pages[0].Data, pages[last].Data = toldPage(0, 0, "", hlt).Data, toldPage(0, 0, "", hlt).Data
		return pages
	}), false, impl.OK)
	for k := 1; k < last; k++ {
		for _, i := range []int{0, 1, 128, 255} {
			checkPrivate(t, withByte(m, m.Pages[k].Base+i), true, impl.OK)
		}
		checkPrivate(t, withPages(m, func(pages []impl.Page) []impl.Page { return slices.Delete(pages, k, k+1) }), true, impl.OK)
		checkPrivate(t, withPages(m, func(pages []impl.Page) []impl.Page {
			pages[k].Perm = 7
			return pages
		}), true, impl.OK)
	}
}

// TestPrivateOfWrongMemory: memory that is not right is told, whether or not the private pages are there.
func TestPrivateOfWrongMemory(t *testing.T) {
	for _, m := range wrongMemories() {
		checkPrivate(t, m, false, impl.ErrBad)
	}
	for _, m := range wrongLoadedMemories(framed(toldPage(16896, 5, "", hlt))) {
		checkPrivate(t, m, false, impl.ErrBad)
	}
	for _, m := range rightMemories() {
		checkPrivate(t, m, false, impl.OK)
	}
}

// wrongLoadedMemories are memories of what was loaded that are not right any more, though all that is asked for is there.
func wrongLoadedMemories(m impl.Memory) []impl.Memory {
	var list []impl.Memory
	change := func(change func(pages []impl.Page) []impl.Page) { list = append(list, withPages(m, change)) }
	for _, k := range []int{0, 1, len(m.Pages) - 1} {
		change(func(pages []impl.Page) []impl.Page {
			pages[k].Perm = 8
			return pages
		})
		change(func(pages []impl.Page) []impl.Page {
			pages[k].Data += "x"
			return pages
		})
		change(func(pages []impl.Page) []impl.Page { return slices.Insert(pages, k, pages[k]) })
	}
	change(func(pages []impl.Page) []impl.Page {
		pages[0], pages[1] = pages[1], pages[0]
		return pages
	})
	change(func(pages []impl.Page) []impl.Page { return append(pages, page(65536, 3)) })
	change(func(pages []impl.Page) []impl.Page { return append(pages, page(40961, 3)) })
	change(func(pages []impl.Page) []impl.Page { return append(pages, pagesFrom(40960, 33, 3).Pages...) })
	return list
}

func checkLoadedOK(t *testing.T, l impl.Loaded, want bool) {
	t.Helper()
	if impl.LoadedOK(l) != want {
		t.Errorf("LoadedOK(%s) = %v", toldLoaded(l), !want)
	}
}

// goodLoads are what LoadImage answered: code of one page ahead of data, code behind data, and as much code as there may be.
func goodLoads(t *testing.T) []impl.Loaded {
	var list []impl.Loaded
	text := masking(1, 4095) + reading(indexedBy(1, 0)) + "\xeb\xf4\x74\x02"
	for _, im := range []impl.Image{
		withSegment(programOf(512, text), dataSegment(6, 1024, 300, "data")),
		imageOf(1056, dataSegment(4, 512, 512, strings.Repeat(hlt, 512)), programOf(1024, nops(32)+text+nops(400)).Segments[0], dataSegment(6, 1792, 9, "")),
		programOf(512, strings.Repeat(hlt, 2998)+text+strings.Repeat(hlt, 60)),
	} {
		l, where, code := impl.LoadImage(im)
		if where != 0 || code != impl.OK {
			t.Fatalf("LoadImage(%s) has the code %q at %d", toldImage(im), impl.CodeWord(code), where)
		}
		list = append(list, l)
	}
	return list
}

// withLoaded is what was loaded, with one thing changed.
func withLoaded(l impl.Loaded, change func(l *impl.Loaded)) impl.Loaded {
	l.Report = cloned(l.Report)
	change(&l)
	return l
}

// sampled tells which places of so many are looked at: those near the ends, and some between.
func sampled(n, many int) bool {
	return n < 12 || n > many-12 || slices.Contains([]int{0, 1, 128, 255}, n%256)
}

// TestLoadedNumbers has Heap, Size, TextAt and Entry of all kinds.
func TestLoadedNumbers(t *testing.T) {
	for _, l := range goodLoads(t) {
		checkLoadedOK(t, l, true)
		for _, n := range slices.Concat(upTo(4300), farNumbers, []int{-1, -32, -256, -512, 1<<32 + 512, math.MinInt + 512, math.MaxInt - 255, 16896, 17408}) {
			checkLoadedOK(t, withLoaded(l, func(l *impl.Loaded) { l.Heap = n }), n%256 == 0 && within(n, 512, 3584))
		}
		for _, n := range slices.Concat(upTo(3300), farNumbers, []int{-1, -32, -l.Size, 4096, 8192, 8193, l.Size + 1<<32, math.MaxInt - 31, math.MinInt + l.Size}) {
			checkLoadedOK(t, withLoaded(l, func(l *impl.Loaded) { l.Size = n }), n == l.Size)
		}
		for _, n := range slices.Concat(upTo(300), farNumbers, []int{512, 4096, 16384, 16640, l.TextAt - 16384, l.TextAt - 256, l.TextAt - 32, l.TextAt - 1, l.TextAt + 1, l.TextAt + 32, l.TextAt + 256, 19968, 32768, 65280, 65536, l.TextAt + 1<<32, math.MinInt + l.TextAt, math.MaxInt - l.Size, math.MaxInt - 255, math.MaxInt - 31}) {
			checkLoadedOK(t, withLoaded(l, func(l *impl.Loaded) { l.TextAt = n }), false)
		}
		for n := -40; n < l.Size+100; n++ {
			if !sampled(n, l.Size) {
				continue
			}
			checkLoadedOK(t, withLoaded(l, func(l *impl.Loaded) { l.Entry = l.TextAt + n }), n%32 == 0 && within(n, 0, l.Size-1))
		}
		for _, n := range slices.Concat(farNumbers, upTo(33), []int{512, l.TextAt - 16384, math.MinInt + l.TextAt, math.MinInt + l.TextAt + 32, math.MaxInt - 31, l.TextAt + 1<<32, -l.TextAt}) {
			checkLoadedOK(t, withLoaded(l, func(l *impl.Loaded) { l.Entry = n }), false)
		}
	}
}

// TestLoadedReports has reports that differ in one list, in one number, and in At.
func TestLoadedReports(t *testing.T) {
	for _, l := range goodLoads(t) {
		if len(l.Report.Starts) < 200 || len(l.Report.Inner) != 1 || len(l.Report.Goals) != 2 {
			t.Fatal(l.Report)
		}
		for _, at := range slices.Concat([]int{1, -1, 32}, farNumbers) {
			checkLoadedOK(t, withLoaded(l, func(l *impl.Loaded) { l.Report.At = at }), at == 0)
		}
		for which := range 3 {
			list := func(r *impl.Report) *[]int { return [3]*[]int{&r.Starts, &r.Inner, &r.Goals}[which] }
			change := func(change func(old []int) []int) impl.Loaded {
				return withLoaded(l, func(l *impl.Loaded) { *list(&l.Report) = change(*list(&l.Report)) })
			}
			size := len(*list(&l.Report))
			for i := range size {
				if !sampled(i, size) {
					continue
				}
				for _, by := range []int{-1, 1, 256, math.MinInt} {
					checkLoadedOK(t, change(func(old []int) []int {
						old[i] += by
						return old
					}), false)
				}
				checkLoadedOK(t, change(func(old []int) []int { return slices.Delete(old, i, i+1) }), false)
				checkLoadedOK(t, change(func(old []int) []int { return slices.Insert(old, i, old[i]) }), false)
			}
			checkLoadedOK(t, change(func([]int) []int { return nil }), false)
			checkLoadedOK(t, change(func(old []int) []int { return append(old, l.Size) }), false)
			checkLoadedOK(t, change(func(old []int) []int { return append([]int{0}, old...) }), false)
			checkLoadedOK(t, change(func(old []int) []int { return append(old, make([]int, impl.MaxList)...) }), false)
			checkLoadedOK(t, change(slices.Clone), true)
		}
		checkLoadedOK(t, withLoaded(l, func(l *impl.Loaded) { l.Report = impl.Report{} }), false)
		checkLoadedOK(t, withLoaded(l, func(l *impl.Loaded) {
			slices.Reverse(l.Report.Goals)
		}), false)
	}
}

// TestEmptyListsOfReports: an empty list is as nil.
func TestEmptyListsOfReports(t *testing.T) {
	l, _, _ := impl.LoadImage(programOf(512, hlt))
	for _, none := range [][]int{nil, {}, make([]int, 0, 9)} {
		checkLoadedOK(t, withLoaded(l, func(l *impl.Loaded) { l.Report.Inner, l.Report.Goals = none, none }), true)
		checkLoadedOK(t, withLoaded(l, func(l *impl.Loaded) { l.Report.Starts = none }), false)
	}
}

// TestLoadedMemories: memory is right, and has the code; what stands elsewhere, and what may be done with any page, does not count.
func TestLoadedMemories(t *testing.T) {
	checkLoadedOK(t, impl.Loaded{}, false)
	for _, l := range goodLoads(t) {
		with := func(m impl.Memory) impl.Loaded { return withLoaded(l, func(l *impl.Loaded) { l.Memory = m }) }
		for _, m := range slices.Concat(wrongLoadedMemories(l.Memory), wrongMemories(), rightMemories()) {
			checkLoadedOK(t, with(m), false)
		}
		for k, p := range l.Memory.Pages {
			code := within(p.Base, l.TextAt, l.TextAt+l.Size-1)
			checkLoadedOK(t, with(withPages(l.Memory, func(pages []impl.Page) []impl.Page { return slices.Delete(pages, k, k+1) })), !code)
			for perm := range 8 {
				checkLoadedOK(t, with(withPages(l.Memory, func(pages []impl.Page) []impl.Page {
					pages[k].Perm = perm
					return pages
				})), true)
			}
			for _, i := range []int{0, 17, 255} {
				checkLoadedOK(t, with(laidByHand(l.Memory, p.Base+i, "\xc3")), !code)
			}
		}
		only := withPages(l.Memory, func(pages []impl.Page) []impl.Page {
			return slices.DeleteFunc(pages, func(p impl.Page) bool { return !within(p.Base, l.TextAt, l.TextAt+l.Size-1) })
		})
		checkLoadedOK(t, with(only), true)
		checkLoadedOK(t, with(withPages(only, func(pages []impl.Page) []impl.Page { return append(pages, pagesFrom(40960, 20, 7).Pages...) })), true)
	}
}

// TestLoadedElsewhere: nothing but what LoadedOK names is asked of the place of the code: neither whole pages, nor where Heap is, nor what else lies in the pages.
func TestLoadedElsewhere(t *testing.T) {
	m := memory(toldPage(16640, 0, "", hlt), toldPage(16896, 3, nops(100), hlt), toldPage(17152, 7, "", hlt), toldPage(19712, 1, "", hlt), toldPage(19968, 3, "", hlt))
	for at := 16640; at < 20224; at += 16 {
		for _, size := range []int{32, 64, 256, 288} {
			there := within(at, 16896, 17408-size) || at >= 19712 && at <= 19968-size
			r := impl.Report{Starts: upTo(size)}
			l := impl.Loaded{Memory: m, Entry: at + size - 32, Heap: 512, TextAt: at, Size: size, Report: r}
			last := there && at%32 == 0 && bytesByHand(m, at+size-1, 1) == hlt
			checkLoadedOK(t, l, last)
			l.Heap, l.Entry = 3584, at
			checkLoadedOK(t, l, last)
			l.Entry = at + size
			checkLoadedOK(t, l, false)
			l.Entry = at - 32
			checkLoadedOK(t, l, false)
		}
	}
}
