package tests

import (
	"debug/elf"
	"io"
	"math"
	"slices"
	"strings"
	"testing"

	"loop.example/g00664/impl"
)

// A toldText is an image with the bytes of its text, told as digits; its Data stand behind them.
type toldText struct {
	image  impl.Image
	digits string
	data   string
	code   int // the number of the segment of FlagsRun
	at     int // where its code stands
}

const toldHead = "7f454c46 02 01 01 000000000000000000 0200 3e00 01000000 "

// toldTexts are images of one segment and of several, with the code ahead, behind and between.
func toldTexts() []toldText {
	page := strings.Repeat("page", 64)
	bundles := strings.Repeat(nop, 63) + hlt
	return []toldText{
		{imageOf(512, codeSegment(512, 32)), toldHead + "0002000000000000 4000000000000000 0000000000000000 00000000 4000 3800 0100 000000000000" +
			"01000000 05000000 7800000000000000 0002000000000000 0002000000000000 2000000000000000 2000000000000000 0001000000000000",
			strings.Repeat(hlt, 32), 0, 16896},
		{imageOf(800, dataSegment(4, 512, 3, "abc"), dataSegment(5, 768, 64, bundles), dataSegment(6, 1024, 600, ""), dataSegment(4, 1792, 5, "hi")),
			toldHead + "2003000000000000 4000000000000000 0000000000000000 00000000 4000 3800 0400 000000000000" +
				"01000000 04000000 2001000000000000 0002000000000000 0002000000000000 0300000000000000 0300000000000000 0001000000000000" +
				"01000000 05000000 2301000000000000 0003000000000000 0003000000000000 4000000000000000 4000000000000000 0001000000000000" +
				"01000000 06000000 6301000000000000 0004000000000000 0004000000000000 0000000000000000 5802000000000000 0001000000000000" +
				"01000000 04000000 6301000000000000 0007000000000000 0007000000000000 0200000000000000 0500000000000000 0001000000000000",
			"abc" + bundles + "hi", 1, 17152},
		{imageOf(3552, dataSegment(6, 1536, 256, page), codeSegment(3328, 256)), toldHead + "e00d000000000000 4000000000000000 0000000000000000 00000000 4000 3800 0200 000000000000" +
			"01000000 06000000 b000000000000000 0006000000000000 0006000000000000 0001000000000000 0001000000000000 0001000000000000" +
			"01000000 05000000 b001000000000000 000d000000000000 000d000000000000 0001000000000000 0001000000000000 0001000000000000",
			page + strings.Repeat(hlt, 256), 1, 19712},
		{imageOf(3552, codeSegment(512, 3072)), toldHead + "e00d000000000000 4000000000000000 0000000000000000 00000000 4000 3800 0100 000000000000" +
			"01000000 05000000 7800000000000000 0002000000000000 0002000000000000 000c000000000000 000c000000000000 0001000000000000",
			strings.Repeat(hlt, 3072), 0, 16896},
	}
}

// TestToldImages has images and their texts, byte by byte.
func TestToldImages(t *testing.T) {
	for _, v := range toldTexts() {
		checkImage(t, v.image, 0, impl.OK)
		want := bytesOf(t, v.digits) + v.data
		if text, code := impl.ElfText(v.image); text != want || code != impl.OK {
			t.Errorf("ElfText(%s) = % x, %d, want % x", toldImage(v.image), text, code, want)
		}
		if im, code := impl.ReadElf(want); !likeImage(im, v.image) || code != impl.OK {
			t.Errorf("ReadElf(% x) = %s, %d, want %s", want, toldImage(im), code, toldImage(v.image))
		}
		if text, at, code := impl.TextOf(v.image); text != v.image.Segments[v.code].Data || at != v.at || code != impl.OK {
			t.Errorf("TextOf(%s) = % x, %d, %d", toldImage(v.image), text, at, code)
		}
	}
}

// TestImagesAreElf has a reader of ELF read an image's text.
func TestImagesAreElf(t *testing.T) {
	im := toldTexts()[1].image
	text, _ := impl.ElfText(im)
	f, err := elf.NewFile(strings.NewReader(text))
	if err != nil {
		t.Fatal(err)
	}
	if f.Class != elf.ELFCLASS64 || f.Data != elf.ELFDATA2LSB || f.Type != elf.ET_EXEC || f.Machine != elf.EM_X86_64 || f.Entry != 800 || len(f.Progs) != 4 {
		t.Errorf("%+v", f.FileHeader)
	}
	for i, p := range f.Progs {
		s := im.Segments[i]
		data, err := io.ReadAll(p.Open())
		if p.Type != elf.PT_LOAD || p.Flags != elf.ProgFlag(s.Flags) || p.Vaddr != uint64(s.Vaddr) || p.Memsz != uint64(s.Memsz) || string(data) != s.Data || err != nil {
			t.Errorf("segment %d is %+v, %q, %v", i, p.ProgHeader, data, err)
		}
	}
}

// otherImages are images that differ from the one of toldTexts in one field each, and are right.
func otherImages() []impl.Image {
	change := func(f func(im *impl.Image)) impl.Image {
		im := toldTexts()[1].image
		f(&im)
		return im
	}
	return []impl.Image{
		change(func(im *impl.Image) { im.Entry = 768 }),
		change(func(im *impl.Image) { im.Segments = im.Segments[:3] }),
		change(func(im *impl.Image) { im.Segments = im.Segments[1:] }),
		change(func(im *impl.Image) { im.Segments[0].Flags = 6 }),
		change(func(im *impl.Image) { im.Segments[3].Flags = 6 }),
		change(func(im *impl.Image) { im.Segments[3].Vaddr = 2048 }),
		change(func(im *impl.Image) { im.Segments[0].Memsz = 4 }),
		change(func(im *impl.Image) { im.Segments[2].Memsz = 599 }),
		change(func(im *impl.Image) { im.Segments[0].Data = "abd" }),
		change(func(im *impl.Image) { im.Segments[0].Data = "ab" }),
		change(func(im *impl.Image) { im.Segments[1].Data = strings.Repeat(nop, 64) }),
		change(func(im *impl.Image) { im.Segments[2].Data = "\x00" }),
		change(func(im *impl.Image) { im.Segments[3].Data = "hi\x00" }),
	}
}

// TestSameImages: images that are alike are the same, and those that differ in one field are not.
func TestSameImages(t *testing.T) {
	list := append(otherImages(), toldTexts()[1].image)
	for i, a := range list {
		checkImage(t, a, 0, impl.OK)
		for k, b := range slices.Concat(otherImages(), []impl.Image{toldTexts()[1].image}) {
			if impl.SameImage(a, b) != (i == k) {
				t.Errorf("SameImage(%s, %s) = %v", toldImage(a), toldImage(b), i != k)
			}
		}
	}
	for _, entry := range []int{799, 801, 832, 0, math.MaxInt, math.MinInt} {
		im := toldTexts()[1].image
		im.Entry = entry
		checkImage(t, im, 0, impl.ErrEntry)
		if impl.SameImage(im, im) || impl.SameImage(im, list[0]) || impl.SameImage(list[0], im) {
			t.Error("images that are not right are the same", entry)
		}
	}
	if impl.SameImage(impl.Image{}, impl.Image{}) {
		t.Error("images of no segments are the same")
	}
}
