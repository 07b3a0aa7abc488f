package tests

import (
	"math"
	"slices"
	"strings"
	"testing"

	"loop.example/g00664/impl"
)

// TestPrivateByte has each byte of a private page, and bytes that it does not have.
func TestPrivateByte(t *testing.T) {
	for i, want := range map[int]int{0: 3, 1: 10, 2: 17, 36: 255, 37: 6, 72: 251, 73: 2, 128: 131, 146: 1, 219: 0, 254: 245, 255: 252} {
		if got := impl.PrivateByte(i); got != want {
			t.Errorf("PrivateByte(%d) = %d, want %d", i, got, want)
		}
	}
	want, seen := 3, map[int]bool{}
	for i := range 256 {
		if got := impl.PrivateByte(i); got != want || seen[got] {
			t.Errorf("PrivateByte(%d) = %d, want %d", i, got, want)
		}
		seen[want] = true
		want = (want + 7) % 256
	}
	for _, i := range slices.Concat(farNumbers, noBases[:5], []int{-1, -2, -255, -256, 256, 257, 511, 512, 1<<32 + 5, 1 << 61, math.MaxInt/7 + 1}) {
		if got := impl.PrivateByte(i); got != 0 {
			t.Errorf("PrivateByte(%d) = %d", i, got)
		}
	}
}

// toldPage is a page that begins with some bytes, with one byte over and over behind them.
func toldPage(base, perm int, data, behind string) impl.Page {
	return impl.Page{Base: base, Perm: perm, Data: data + strings.Repeat(behind, 256-len(data))}
}

// framed are pages of segments among those that all images have.
func framed(pages ...impl.Page) impl.Memory {
	var private []byte
	for i := range 256 {
		private = append(private, byte(7*i+3))
	}
	list := []impl.Page{{Base: 4096, Perm: 3, Data: string(private)}, toldPage(16640, 4, "", hlt)}
	list = append(list, pages...)
	return impl.Memory{Pages: append(list, toldPage(19968, 3, "", "\x00"), toldPage(20224, 3, "", "\x00"), impl.Page{Base: 32768, Perm: 3, Data: string(private)})}
}

// A toldLoad is an image, and what it has become when it is loaded.
type toldLoad struct {
	image  impl.Image
	loaded impl.Loaded
}

// toldLoads are images of one segment and of several, with the code ahead, behind and between.
func toldLoads() []toldLoad {
	jump := "\xeb\xfe" + strings.Repeat(hlt, 30)
	masked := masking(1, 4095) + reading(indexedBy(1, 0)) + "\xeb\xf4"
	starts := append([]int{0, 6, 10}, upTo(256)[12:]...)
	bundles := strings.Repeat(nop, 256)
	page, told := strings.Repeat("page", 64), strings.Repeat("told", 50)
	return []toldLoad{
		{imageOf(512, dataSegment(5, 512, 32, jump)), impl.Loaded{Memory: framed(toldPage(16896, 5, "\xeb\xfe", hlt)),
			Entry: 16896, Heap: 768, TextAt: 16896, Size: 256, Report: impl.Report{Starts: append([]int{0}, upTo(256)[2:]...), Goals: []int{0}}}},
		{imageOf(800, dataSegment(4, 512, 3, "abc"), programOf(768, masked+strings.Repeat(nop, 52)).Segments[0], dataSegment(6, 1024, 600, ""), dataSegment(4, 1792, 5, "hi")),
			impl.Loaded{Memory: framed(toldPage(16896, 1, "abc", "\x00"), toldPage(17152, 5, masked+strings.Repeat(nop, 52), hlt), toldPage(17408, 3, "", "\x00"), toldPage(17664, 3, "", "\x00"), toldPage(17920, 3, "", "\x00"), toldPage(18176, 1, "hi", "\x00")),
				Entry: 17184, Heap: 2048, TextAt: 17152, Size: 256, Report: impl.Report{Starts: starts, Inner: []int{6}, Goals: []int{0}}}},
		{imageOf(3552, dataSegment(6, 1536, 457, page+told), dataSegment(5, 3072, 512, bundles+strings.Repeat(hlt, 256))),
			impl.Loaded{Memory: framed(toldPage(17920, 3, page, ""), toldPage(18176, 3, told, "\x00"), toldPage(19456, 5, bundles, ""), toldPage(19712, 5, "", hlt)),
				Entry: 19936, Heap: 3584, TextAt: 19456, Size: 512, Report: impl.Report{Starts: upTo(512)}}},
		{imageOf(768, dataSegment(5, 768, 256, bundles[:251]+going(impl.OpJmp, 251, 16640-17152)), dataSegment(6, 3328, 256, page)),
			impl.Loaded{Memory: framed(toldPage(17152, 5, bundles[:251]+"\xe9\x00\xfd\xff\xff", ""), toldPage(19712, 3, page, "")),
				Entry: 17152, Heap: 3584, TextAt: 17152, Size: 256, Report: impl.Report{Starts: upTo(252), Goals: []int{-512}}}},
	}
}

// TestToldLoads has images, and what they are in memory, page by page.
func TestToldLoads(t *testing.T) {
	j := newJudge(t)
	for _, v := range toldLoads() {
		mapped := v.loaded
		mapped.Report = impl.Report{}
		checkMap(t, v.image, mapped, impl.OK)
		checkLoaded(t, v.image, v.loaded, 0, impl.OK)
		j.load(v.image)
	}
	for _, v := range toldTexts() {
		j.load(v.image)
	}
	for _, im := range otherImages() {
		j.load(im)
	}
	if j.codes[impl.OK] < 10 {
		t.Error("few images are taken", j.codes)
	}
}

// TestMappedWhatIsRefused: MapImage asks nothing of the code.
func TestMappedWhatIsRefused(t *testing.T) {
	j := newJudge(t)
	for _, code := range []string{"\xc3", "\x0f\x05", "\xe9\xfb\x00\x00\x00", "\x00\x00", strings.Repeat("\x90", 256)} {
		im := programOf(1024, code)
		im.Entry = 1024
		checkMap(t, im, impl.Loaded{Memory: framed(toldPage(17408, 5, code, hlt)), Entry: 17408, Heap: 1280, TextAt: 17408, Size: 256}, impl.OK)
		if j.load(im) == impl.OK {
			t.Errorf("% x is taken", code)
		}
	}
}

// TestLoadingLimits has the places of chapter 12.
func TestLoadingLimits(t *testing.T) {
	im := programOf(512, strings.Repeat(hlt, 3072))
	want := []int{4096, 16640}
	for base := 16896; base < 20480; base += 256 {
		want = append(want, base)
	}
	want = append(want, 32768)
	l, _, code := impl.LoadImage(im)
	var bases []int
	for _, p := range l.Memory.Pages {
		bases = append(bases, p.Base)
	}
	if !slices.Equal(bases, want) || l.Size != 3072 || l.Heap != 3584 || len(l.Report.Starts) != 3072 || code != impl.OK {
		t.Error(toldLoaded(l), code)
	}
}
