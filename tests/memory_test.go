package tests

import (
	"math"
	"math/rand"
	"slices"
	"strings"
	"testing"

	"loop.example/g00664/impl"
)

// farAddresses are addresses that no page has.
var farAddresses = []int{math.MinInt, math.MinInt + 1, math.MinInt + 7, math.MinInt + 256, -1 << 32, -65536, -257, -256, -255, -8, -1, 65536, 65537, 65791, 1 << 32, 1<<32 + 256, math.MaxInt - 8192, math.MaxInt - 255, math.MaxInt - 7, math.MaxInt - 1, math.MaxInt}

var noBases = []int{math.MinInt, -65536, -256, -255, -1, 1, 2, 128, 255, 257, 511, 65279, 65281, 65535, 65536, 65792, 1 << 32, math.MaxInt - 255, math.MaxInt}

var noPerms = []int{math.MinInt, -8, -7, -1, 8, 9, 15, 16, 255, 256, 1 << 32, 1<<32 + 7, math.MaxInt}

// pageData is 256 bytes that follow no rule and are not the same for two seeds; none of them is 0.
func pageData(seed int) string {
	source := rand.New(rand.NewSource(int64(seed)))
	data := make([]byte, impl.PageSize)
	for i := range data {
		data[i] = byte(1 + source.Intn(255))
	}
	return string(data)
}

func page(base, perm int) impl.Page { return impl.Page{Base: base, Perm: perm, Data: pageData(base)} }

func memory(pages ...impl.Page) impl.Memory { return impl.Memory{Pages: pages} }

// pagesFrom are many pages side by side from a base on, all of them of one Perm.
func pagesFrom(base, many, perm int) impl.Memory {
	var m impl.Memory
	for i := range many {
		m.Pages = append(m.Pages, page(base+i*impl.PageSize, perm))
	}
	return m
}

// patchwork has pages of all Perms side by side, pages between gaps, and the first and the last page there can be.
func patchwork() impl.Memory {
	return memory(page(0, 3), page(256, 1), page(512, 2), page(768, 0), page(1024, 4), page(1280, 5), page(1536, 7), page(1792, 6),
		page(2304, 3), page(2816, 7), page(3072, 3), page(3328, 3), page(32768, 3), page(65024, 3), page(65280, 7))
}

func rightMemories() []impl.Memory {
	return []impl.Memory{{}, {Pages: []impl.Page{}}, memory(page(0, 0)), memory(page(0, 7), page(65280, 0)), memory(page(65280, 3)),
		memory(page(256, 1), page(512, 2), page(768, 4)), patchwork(), pagesFrom(0, 31, 3), pagesFrom(0, 32, 3), pagesFrom(65536-32*256, 32, 7), pagesFrom(16384, 32, 0)}
}

func withData(data string) impl.Page { return impl.Page{Base: 256, Perm: 3, Data: data} }

// wrongMemories break each rule of a memory, in the first page and in the last one.
func wrongMemories() []impl.Memory {
	full := pagesFrom(0, 32, 3)
	list := []impl.Memory{pagesFrom(0, 33, 3), {Pages: make([]impl.Page, impl.MaxList+1)},
		memory(page(256, 3), page(256, 3)), memory(page(512, 3), page(256, 3)), memory(page(0, 1), page(512, 1), page(256, 1)), memory(page(0, 1), page(256, 1), page(0, 1))}
	for _, base := range noBases {
		list = append(list, memory(impl.Page{Base: base, Perm: 3, Data: pageData(1)}))
		list = append(list, memory(page(0, 3), impl.Page{Base: base, Perm: 3, Data: pageData(1)}))
	}
	for _, perm := range noPerms {
		list = append(list, memory(page(0, perm)), memory(page(0, 3), page(256, perm)))
	}
	data := pageData(256)
	for _, other := range []string{"", "x", data[:255], data + "\x00", data + data, strings.Repeat("x", impl.MaxText+1)} {
		list = append(list, memory(withData(other)), memory(page(0, 3), withData(other)), memory(withData(other), page(512, 3)))
	}
	for _, last := range []impl.Page{page(30*256, 3), page(31*256, 8), {Base: 31 * 256, Perm: 3, Data: "x"}} {
		list = append(list, memory(append(slices.Clone(full.Pages[:31]), last)...))
	}
	return list
}

// alike compares page by page, without the program's help.
func alike(a, b impl.Memory) bool { return slices.Equal(a.Pages, b.Pages) }

// pageByHand is the page that has the byte i places behind address; -1 if none has it.
func pageByHand(m impl.Memory, address, i int) int {
	if address < -10000 || address > 70000 {
		return -1
	}
	return slices.IndexFunc(m.Pages, func(p impl.Page) bool { return p.Base <= address+i && address+i < p.Base+256 })
}

// faultByHand is how many of n bytes can be had, one after the other, and the code of the one that cannot.
func faultByHand(m impl.Memory, address, n, perm int) (int, int) {
	for i := range n {
		at := pageByHand(m, address, i)
		if at < 0 {
			return i, impl.ErrPage
		}
		if perm != 0 && m.Pages[at].Perm&perm == 0 {
			return i, impl.ErrPerm
		}
	}
	return n, impl.OK
}

func bytesByHand(m impl.Memory, address, n int) string {
	var out []byte
	for i := range n {
		p := m.Pages[pageByHand(m, address, i)]
		out = append(out, p.Data[address+i-p.Base])
	}
	return string(out)
}

func laidByHand(m impl.Memory, address int, t string) impl.Memory {
	pages := slices.Clone(m.Pages)
	for i := range len(t) {
		p := &pages[pageByHand(m, address, i)]
		data := []byte(p.Data)
		data[address+i-p.Base] = t[i]
		p.Data = string(data)
	}
	return impl.Memory{Pages: pages}
}

// edgeAddresses are those around the ends of all pages of m, and those that no page has.
func edgeAddresses(m impl.Memory) []int {
	list := slices.Clone(farAddresses)
	for _, p := range m.Pages {
		for i := -17; i <= 17; i++ {
			list = append(list, p.Base+i, p.Base+impl.PageSize+i)
		}
		list = append(list, p.Base+100)
	}
	slices.Sort(list)
	return slices.Compact(list)
}

// pairs are memories of two pages side by side, of any two Perms, and of one page with none beside it.
func pairs() []impl.Memory {
	var list []impl.Memory
	for first := range 8 {
		list = append(list, memory(page(512, first)), memory(page(0, first)), memory(page(65280, first)))
		for second := range 8 {
			list = append(list, memory(page(512, first), page(768, second)))
		}
	}
	return list
}

func checkLoad(t *testing.T, m impl.Memory, address, size int) {
	t.Helper()
	want := 0
	_, wantCode := faultByHand(m, address, size, impl.PermRead)
	if wantCode == impl.OK {
		want, _ = impl.TakeLittle(bytesByHand(m, address, size), 0, size)
	}
	if n, code := impl.LoadAt(m, address, size); n != want || code != wantCode {
		t.Errorf("LoadAt %d of size %d: %d, %d, want %d, %d", address, size, n, code, want, wantCode)
	}
}

func checkStore(t *testing.T, m impl.Memory, address, size, v int) {
	t.Helper()
	want := m
	_, wantCode := faultByHand(m, address, size, impl.PermWrite)
	if wantCode == impl.OK {
		text, _ := impl.PutLittle(v, size)
		want = laidByHand(m, address, text)
	}
	got, code := impl.StoreAt(m, address, size, v)
	if !alike(got, want) || code != wantCode {
		t.Errorf("StoreAt %d of size %d: %d, want %d, or other pages", address, size, code, wantCode)
	}
}

func checkFetch(t *testing.T, m impl.Memory, address int) {
	t.Helper()
	n, wantCode := faultByHand(m, address, 15, impl.PermRun)
	want := bytesByHand(m, address, n)
	if n > 0 {
		wantCode = impl.OK
	}
	if got, code := impl.FetchAt(m, address); got != want || code != wantCode {
		t.Errorf("FetchAt %d: %x, %d, want %x, %d", address, got, code, want, wantCode)
	}
}

func checkSpan(t *testing.T, m impl.Memory, address, n int) {
	t.Helper()
	text, wantText, wantMemory := pageData(7)[:n], "", m
	_, wantCode := faultByHand(m, address, n, 0)
	if wantCode == impl.OK {
		wantText, wantMemory = bytesByHand(m, address, n), laidByHand(m, address, text)
	}
	if got, code := impl.GetBytes(m, address, n); got != wantText || code != wantCode {
		t.Errorf("GetBytes %d of %d: %x, %d, want %x, %d", address, n, got, code, wantText, wantCode)
	}
	if got, code := impl.PutBytes(m, address, text); !alike(got, wantMemory) || code != wantCode {
		t.Errorf("PutBytes %d of %d: %d, want %d, or other pages", address, n, code, wantCode)
	}
}

func TestMemoryLimits(t *testing.T) {
	if impl.PageSize != 256 || impl.MaxPages != 32 || impl.MaxAddress != 65535 || impl.PermRead != 1 || impl.PermWrite != 2 || impl.PermRun != 4 {
		t.Error(impl.PageSize, impl.MaxPages, impl.MaxAddress, impl.PermRead, impl.PermWrite, impl.PermRun)
	}
}

func TestMemoryOK(t *testing.T) {
	for i, m := range rightMemories() {
		if !impl.MemoryOK(m) {
			t.Errorf("right memory %d is not", i)
		}
	}
	for i, m := range wrongMemories() {
		if impl.MemoryOK(m) {
			t.Errorf("wrong memory %d is right", i)
		}
	}
	for base := 0; base <= impl.MaxAddress; base += impl.PageSize {
		if !impl.MemoryOK(memory(page(base, base/impl.PageSize%8))) {
			t.Errorf("a page at %d is not right", base)
		}
	}
}

// TestWrongMemory: of a memory that is not right each call answers ErrBad, whatever else is wrong, and nothing beside it.
func TestWrongMemory(t *testing.T) {
	numbers := []int{0, 256, 1, 8, -1, 3, 8193, math.MinInt, math.MaxInt}
	for i, m := range wrongMemories() {
		for _, a := range numbers {
			for _, b := range numbers {
				added, addCode := impl.AddPage(m, a, b)
				set, setCode := impl.SetPerm(m, a, b)
				stored, storeCode := impl.StoreAt(m, a, b, 5)
				if addCode != impl.ErrBad || setCode != impl.ErrBad || storeCode != impl.ErrBad || len(added.Pages)+len(set.Pages)+len(stored.Pages) != 0 {
					t.Fatal("wrong memory", i, a, b, addCode, setCode, storeCode)
				}
				n, loadCode := impl.LoadAt(m, a, b)
				text, getCode := impl.GetBytes(m, a, b)
				if loadCode != impl.ErrBad || getCode != impl.ErrBad || n != 0 || text != "" {
					t.Fatal("wrong memory", i, a, b, loadCode, getCode)
				}
			}
			perm, permCode := impl.PermAt(m, a)
			text, fetchCode := impl.FetchAt(m, a)
			if permCode != impl.ErrBad || fetchCode != impl.ErrBad || perm != 0 || text != "" {
				t.Fatal("wrong memory", i, a, permCode, fetchCode)
			}
			for _, length := range []int{0, 1, 8192, 8193, impl.MaxText} {
				if got, code := impl.PutBytes(m, a, strings.Repeat("x", length)); code != impl.ErrBad || len(got.Pages) != 0 {
					t.Fatal("wrong memory", i, a, length, code)
				}
			}
		}
	}
}

func TestAddPage(t *testing.T) {
	var m impl.Memory
	noughts := strings.Repeat("\x00", 256)
	for i, base := range []int{512, 0, 65280, 256, 1024} {
		perm := i + 2
		got, code := impl.AddPage(m, base, perm)
		want := append(slices.Clone(m.Pages), impl.Page{Base: base, Perm: perm, Data: noughts})
		slices.SortFunc(want, func(a, b impl.Page) int { return a.Base - b.Base })
		if code != impl.OK || !slices.Equal(got.Pages, want) || !impl.MemoryOK(got) {
			t.Fatal("AddPage", base, code)
		}
		m = got
	}
	// The pages there were keep what they hold, wherever the new one goes.
	holds := patchwork()
	for _, base := range []int{2048, 2560, 65280 - 512} {
		got, code := impl.AddPage(holds, base, 5)
		at := slices.IndexFunc(got.Pages, func(p impl.Page) bool { return p.Base == base })
		if code != impl.OK || at < 0 || got.Pages[at] != (impl.Page{Base: base, Perm: 5, Data: noughts}) {
			t.Fatal("AddPage", base, code, at)
		}
		if !slices.Equal(slices.Delete(got.Pages, at, at+1), holds.Pages) {
			t.Error("AddPage changes other pages", base)
		}
	}
}

func TestAddPageFaults(t *testing.T) {
	for _, m := range []impl.Memory{{}, patchwork(), pagesFrom(0, 32, 3)} {
		for _, base := range noBases {
			for _, perm := range []int{0, 7, 8} {
				if got, code := impl.AddPage(m, base, perm); code != impl.ErrRange || len(got.Pages) != 0 {
					t.Error("AddPage of base", base, perm, code)
				}
			}
		}
		for _, perm := range noPerms {
			for _, base := range []int{0, 2048, 65280} {
				if got, code := impl.AddPage(m, base, perm); code != impl.ErrRange || len(got.Pages) != 0 {
					t.Error("AddPage of Perm", base, perm, code)
				}
			}
		}
		for _, p := range m.Pages {
			for perm := range 8 {
				if got, code := impl.AddPage(m, p.Base, perm); code != impl.ErrPage || !alike(got, m) {
					t.Error("AddPage of a base that is there", p.Base, perm, code)
				}
			}
		}
	}
}

func TestAddPageToManyPages(t *testing.T) {
	var m impl.Memory
	for i := range impl.MaxPages {
		got, code := impl.AddPage(m, 512*i, i%8)
		if code != impl.OK || len(got.Pages) != i+1 || !impl.MemoryOK(got) {
			t.Fatal("AddPage", i, code, len(got.Pages))
		}
		m = got
	}
	for base := 0; base <= impl.MaxAddress; base += impl.PageSize {
		want := impl.ErrFull
		if base%512 == 0 && base < 512*impl.MaxPages {
			want = impl.ErrPage
		}
		if got, code := impl.AddPage(m, base, 3); code != want || !alike(got, m) {
			t.Error("AddPage to MaxPages pages", base, code, want)
		}
	}
}

func TestSetPerm(t *testing.T) {
	m := patchwork()
	for i, p := range m.Pages {
		for perm := range 8 {
			got, code := impl.SetPerm(m, p.Base, perm)
			want := slices.Clone(m.Pages)
			want[i].Perm = perm
			if code != impl.OK || !slices.Equal(got.Pages, want) {
				t.Error("SetPerm", p.Base, perm, code)
			}
		}
	}
	for _, m := range []impl.Memory{{}, m, pagesFrom(0, 32, 3)} {
		for _, base := range noBases {
			if got, code := impl.SetPerm(m, base, 3); code != impl.ErrRange || len(got.Pages) != 0 {
				t.Error("SetPerm of base", base, code)
			}
		}
		for _, perm := range noPerms {
			for _, base := range []int{0, 256, 16384} {
				if got, code := impl.SetPerm(m, base, perm); code != impl.ErrRange || len(got.Pages) != 0 {
					t.Error("SetPerm of Perm", base, perm, code)
				}
			}
		}
		for _, base := range []int{16384, 65280 - 512, 32768 + 256} {
			if got, code := impl.SetPerm(m, base, 3); code != impl.ErrPage || !alike(got, m) {
				t.Error("SetPerm of no page", base, code)
			}
		}
	}
}

func TestPermAt(t *testing.T) {
	for i, m := range rightMemories() {
		for _, address := range edgeAddresses(m) {
			want, wantCode := 0, impl.ErrPage
			if at := pageByHand(m, address, 0); at >= 0 {
				want, wantCode = m.Pages[at].Perm, impl.OK
			}
			if perm, code := impl.PermAt(m, address); perm != want || code != wantCode {
				t.Error("PermAt", i, address, perm, code)
			}
		}
	}
}

// TestPagesAllowWhatPermSays holds for P3: every access at the edges of pages of any two Perms, and of none, has what its bytes allow.
func TestPagesAllowWhatPermSays(t *testing.T) {
	for _, m := range append(pairs(), patchwork(), impl.Memory{}) {
		for _, address := range edgeAddresses(m) {
			for _, size := range sizes {
				checkLoad(t, m, address, size)
				checkStore(t, m, address, size, 0x0102030405060708)
			}
			checkFetch(t, m, address)
			for _, n := range []int{0, 1, 2, 16, 255, 256} {
				checkSpan(t, m, address, n)
			}
		}
	}
}

// TestFirstByteThatCannotBeHad spells out which of two faults is told.
func TestFirstByteThatCannotBeHad(t *testing.T) {
	m := memory(page(512, 0), page(768, 3), page(1024, 4), page(65280, 0))
	for _, v := range []struct{ address, size, want int }{
		{511, 2, impl.ErrPage}, {511, 1, impl.ErrPage}, {510, 2, impl.ErrPage}, {505, 8, impl.ErrPage},
		{767, 2, impl.ErrPerm}, {767, 1, impl.ErrPerm}, {768, 8, impl.OK}, {1016, 8, impl.OK}, {1017, 8, impl.ErrPerm}, {1023, 2, impl.ErrPerm},
		{1279, 2, impl.ErrPerm}, {1280, 1, impl.ErrPage}, {65535, 1, impl.ErrPerm}, {65535, 8, impl.ErrPerm}, {65536, 1, impl.ErrPage}, {65279, 2, impl.ErrPage},
		{-1, 2, impl.ErrPage}, {math.MaxInt, 8, impl.ErrPage}, {math.MaxInt - 7, 8, impl.ErrPage}, {math.MinInt, 1, impl.ErrPage},
	} {
		if n, code := impl.LoadAt(m, v.address, v.size); code != v.want || code != impl.OK && n != 0 {
			t.Error("LoadAt", v.address, v.size, n, code)
		}
		if got, code := impl.StoreAt(m, v.address, v.size, -1); code != v.want || alike(got, m) != (code != impl.OK) {
			t.Error("StoreAt", v.address, v.size, code)
		}
	}
	last := memory(page(65280, 3))
	for _, size := range sizes {
		if got, code := impl.StoreAt(last, 65536-size, size, -1); code != impl.OK || got.Pages[0].Data[:256-size] != last.Pages[0].Data[:256-size] || strings.Trim(got.Pages[0].Data[256-size:], "\xff") != "" {
			t.Error("StoreAt the last bytes", size, code)
		}
		if got, code := impl.StoreAt(last, 65537-size, size, -1); code != impl.ErrPage || !alike(got, last) {
			t.Error("StoreAt over the last byte", size, code)
		}
		if n, code := impl.LoadAt(last, 65537-size, size); code != impl.ErrPage || n != 0 {
			t.Error("LoadAt over the last byte", size, n, code)
		}
	}
}

func TestAccessesOfNoSize(t *testing.T) {
	for _, m := range []impl.Memory{{}, patchwork()} {
		for _, size := range noSizes {
			for _, address := range []int{0, 255, 768, 2048, -1, 65536, math.MinInt, math.MaxInt} {
				if n, code := impl.LoadAt(m, address, size); n != 0 || code != impl.ErrRange {
					t.Error("LoadAt", address, size, n, code)
				}
				if got, code := impl.StoreAt(m, address, size, 1); len(got.Pages) != 0 || code != impl.ErrRange {
					t.Error("StoreAt", address, size, code)
				}
			}
		}
	}
}

// TestStoredIsLoaded holds for P3: what is stored is loaded, and no other byte changes, within a page and over its end.
func TestStoredIsLoaded(t *testing.T) {
	m := pagesFrom(4096, 3, 3)
	for _, address := range []int{4096, 4097, 4200, 4344, 4345, 4347, 4348, 4349, 4350, 4351, 4352, 4353, 4601, 4607, 4608, 4856} {
		for _, size := range sizes {
			for _, v := range edgeNumbers() {
				got, code := impl.StoreAt(m, address, size, v)
				want, _ := impl.ZeroOf(v, size)
				if n, loadCode := impl.LoadAt(got, address, size); n != want || code != impl.OK || loadCode != impl.OK {
					t.Fatal("stored and loaded", address, size, v, n, code, loadCode)
				}
				text, _ := impl.PutLittle(v, size)
				if !alike(got, laidByHand(m, address, text)) {
					t.Fatal("other bytes change", address, size, v)
				}
			}
		}
	}
}

// TestStoresFollowOneAnother holds for P3 over many calls: after each of them the memory is what a table of its bytes tells.
func TestStoresFollowOneAnother(t *testing.T) {
	source := rand.New(rand.NewSource(3))
	m := patchwork()
	want := m
	addresses := edgeAddresses(m)
	for i := range 3000 {
		address, size, v := addresses[source.Intn(len(addresses))], sizes[source.Intn(4)], int(source.Uint64())
		text, _ := impl.PutLittle(v, size)
		var got impl.Memory
		var code, wantCode int
		if i%3 == 0 {
			got, code = impl.PutBytes(m, address, text)
			_, wantCode = faultByHand(want, address, size, 0)
		} else {
			got, code = impl.StoreAt(m, address, size, v)
			_, wantCode = faultByHand(want, address, size, impl.PermWrite)
		}
		if wantCode == impl.OK {
			want = laidByHand(want, address, text)
		}
		if code != wantCode || !alike(got, want) {
			t.Fatal("store", i, address, size, code, wantCode)
		}
		checkLoad(t, got, addresses[source.Intn(len(addresses))], sizes[source.Intn(4)])
		m = got
	}
}

func TestLoadAtTellsSigns(t *testing.T) {
	m := memory(impl.Page{Base: 256, Perm: 1, Data: strings.Repeat("\xff", 256)}, impl.Page{Base: 512, Perm: 1, Data: strings.Repeat("\x80", 256)})
	for _, v := range []struct{ address, size, want int }{
		{256, 1, 255}, {256, 2, 65535}, {256, 4, 4294967295}, {256, 8, -1}, {511, 2, 0x80ff}, {510, 4, 0x8080ffff}, {512, 1, 128}, {505, 8, -0x7f00000000000001},
	} {
		if n, code := impl.LoadAt(m, v.address, v.size); n != v.want || code != impl.OK {
			t.Errorf("LoadAt %d of size %d: %d, %d, want %d", v.address, v.size, n, code, v.want)
		}
	}
}

func TestFetchAt(t *testing.T) {
	m := memory(page(256, 4), page(512, 5), page(768, 3), page(1280, 6), page(65280, 7))
	all := m.Pages[0].Data + m.Pages[1].Data
	for _, v := range []struct {
		address, code int
		want          string
	}{
		{256, impl.OK, all[:15]}, {497, impl.OK, all[241:256]}, {498, impl.OK, all[242:257]}, {511, impl.OK, all[255:270]}, {512, impl.OK, all[256:271]},
		{753, impl.OK, all[497:]}, {754, impl.OK, all[498:]}, {766, impl.OK, all[510:]}, {767, impl.OK, all[511:]},
		{768, impl.ErrPerm, ""}, {1023, impl.ErrPerm, ""}, {1024, impl.ErrPage, ""}, {255, impl.ErrPage, ""}, {1279, impl.ErrPage, ""},
		{1535, impl.OK, m.Pages[3].Data[255:]}, {1536, impl.ErrPage, ""}, {65521, impl.OK, m.Pages[4].Data[241:]}, {65522, impl.OK, m.Pages[4].Data[242:]},
		{65535, impl.OK, m.Pages[4].Data[255:]}, {65536, impl.ErrPage, ""}, {-1, impl.ErrPage, ""}, {math.MinInt, impl.ErrPage, ""}, {math.MaxInt, impl.ErrPage, ""},
	} {
		if got, code := impl.FetchAt(m, v.address); got != v.want || code != v.code {
			t.Errorf("FetchAt %d: %x, %d, want %x, %d", v.address, got, code, v.want, v.code)
		}
	}
}

// TestLoaderDoesNotAskPerm: GetBytes and PutBytes have every page, whatever it allows.
func TestLoaderDoesNotAskPerm(t *testing.T) {
	for perm := range 8 {
		m := pagesFrom(512, 3, perm)
		text := pageData(1) + pageData(2)
		got, code := impl.PutBytes(m, 600, text)
		if code != impl.OK || !alike(got, laidByHand(m, 600, text)) {
			t.Error("PutBytes", perm, code)
		}
		if back, code := impl.GetBytes(got, 600, len(text)); back != text || code != impl.OK {
			t.Error("GetBytes", perm, len(back), code)
		}
	}
}

func TestGetBytesOfManyBytes(t *testing.T) {
	full := pagesFrom(1024, 32, 0)
	all := ""
	for _, p := range full.Pages {
		all += p.Data
	}
	if got, code := impl.GetBytes(full, 1024, 8192); got != all || code != impl.OK {
		t.Error("GetBytes of 8192 bytes", len(got), code)
	}
	for _, v := range []struct{ address, n, code int }{
		{1023, 8192, impl.ErrPage}, {1025, 8192, impl.ErrPage}, {9215, 2, impl.ErrPage}, {1023, 1, impl.ErrPage}, {9216, 1, impl.ErrPage}, {math.MaxInt, 8192, impl.ErrPage}, {math.MinInt, 8192, impl.ErrPage}, {-8192, 8192, impl.ErrPage}, {65535, 8192, impl.ErrPage},
		{1024, 8193, impl.ErrRange}, {1024, -1, impl.ErrRange}, {0, 8193, impl.ErrRange}, {0, -1, impl.ErrRange}, {math.MaxInt, math.MaxInt, impl.ErrRange}, {math.MinInt, math.MinInt, impl.ErrRange}, {1024, 1 << 32, impl.ErrRange},
	} {
		if got, code := impl.GetBytes(full, v.address, v.n); got != "" || code != v.code {
			t.Error("GetBytes", v.address, v.n, len(got), code)
		}
	}
	for _, m := range []impl.Memory{{}, full} {
		for _, address := range append(slices.Clone(farAddresses), 0, 1023, 1024, 9216, 65535) {
			if got, code := impl.GetBytes(m, address, 0); got != "" || code != impl.OK {
				t.Error("GetBytes of no bytes", address, got, code)
			}
		}
	}
}

func TestPutBytesOfManyBytes(t *testing.T) {
	full := pagesFrom(1024, 32, 0)
	text := strings.Repeat("0123456789abcde", impl.MaxText/15+1)
	if got, code := impl.PutBytes(full, 1024, text[:8192]); code != impl.OK || !alike(got, laidByHand(full, 1024, text[:8192])) {
		t.Error("PutBytes of 8192 bytes", code)
	}
	for _, v := range []struct{ address, n int }{{1023, 8192}, {1025, 8192}, {9215, 2}, {1023, 1}, {9216, 1}, {math.MaxInt, 8192}, {math.MinInt, 8192}, {-8192, 8192}, {65535, 8192}, {1024, 8193}, {0, 8193}, {1024, impl.MaxText}, {0, impl.MaxText}} {
		if got, code := impl.PutBytes(full, v.address, text[:v.n]); code != impl.ErrPage || !alike(got, full) {
			t.Error("PutBytes", v.address, v.n, code)
		}
	}
	for _, m := range append(wrongMemories(), impl.Memory{}, full) {
		for _, address := range []int{0, 1024, math.MinInt, math.MaxInt} {
			if got, code := impl.PutBytes(m, address, text[:impl.MaxText+1]); code != impl.ErrLong || len(got.Pages) != 0 {
				t.Error("PutBytes of more than MaxText bytes", address, code)
			}
		}
	}
	for _, m := range []impl.Memory{{}, full} {
		for _, address := range append(slices.Clone(farAddresses), 0, 1023, 1024, 9216, 65535) {
			if got, code := impl.PutBytes(m, address, ""); code != impl.OK || !alike(got, m) {
				t.Error("PutBytes of no bytes", address, code)
			}
		}
	}
}

func TestSameMemory(t *testing.T) {
	right := rightMemories()
	for i, a := range right {
		for k, b := range right {
			if impl.SameMemory(a, b) != (i == k || i < 2 && k < 2) {
				t.Error("SameMemory", i, k)
			}
		}
		if !impl.SameMemory(a, impl.Memory{Pages: slices.Clone(a.Pages)}) {
			t.Error("SameMemory of a copy", i)
		}
		for k, b := range wrongMemories() {
			if impl.SameMemory(a, b) || impl.SameMemory(b, a) || impl.SameMemory(b, b) {
				t.Error("SameMemory of wrong memory", i, k)
			}
		}
	}
	m := patchwork()
	for i := range m.Pages {
		perm, data := patchwork(), patchwork()
		perm.Pages[i].Perm ^= 1
		first := data.Pages[i].Data
		data.Pages[i].Data = first[:255] + string([]byte{first[255] ^ 1})
		fewer := impl.Memory{Pages: slices.Delete(slices.Clone(m.Pages), i, i+1)}
		for _, other := range []impl.Memory{perm, data, fewer} {
			if impl.SameMemory(m, other) || impl.SameMemory(other, m) || !impl.MemoryOK(other) {
				t.Error("SameMemory of another page", i)
			}
		}
	}
	moved := patchwork()
	moved.Pages[8].Base += impl.PageSize
	if impl.SameMemory(m, moved) || !impl.MemoryOK(moved) {
		t.Error("SameMemory of another base")
	}
}
