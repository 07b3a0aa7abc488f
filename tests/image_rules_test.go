package tests

import (
	"fmt"
	"slices"
	"strings"
	"testing"

	"loop.example/g00664/impl"
)

// elfTexts are texts that are images, and others.
func elfTexts() []string {
	list := anyTexts()
	for _, v := range toldTexts() {
		text := planOf(v.image).text()
		list = append(list, text, text[:64], text[:119], text[:len(text)-1], text+"more", text[1:], text+strings.Repeat("x", impl.MaxText-len(text)), text+strings.Repeat("x", impl.MaxText+1-len(text)))
	}
	for _, im := range oddImages() {
		if text := planOf(im).text(); len(im.Segments) < 10 {
			list = append(list, text)
		}
	}
	return list
}

// oddImages are images with numbers and texts that no call need expect.
func oddImages() []impl.Image {
	list := []impl.Image{{}, {Segments: []impl.Segment{}}, imageOf(512, make([]impl.Segment, 5)...), imageOf(512, make([]impl.Segment, 5000)...)}
	for _, n := range anyNumbers {
		for _, at := range []int{512, 768} {
			list = append(list, imageOf(n, codeSegment(512, 32)), imageOf(512, codeSegment(512, 32), dataSegment(n, at, 32, "data")), imageOf(512, codeSegment(512, 32), dataSegment(6, n, 32, "data")), imageOf(512, codeSegment(512, 32), dataSegment(6, at, n, "data")),
				imageOf(n, dataSegment(n, n, n, "")), imageOf(n, dataSegment(5, n, n, nops(32)), dataSegment(6, n, n, "data")))
		}
	}
	for _, size := range []int{0, 32, 3072, 3073, 65536, 65537} {
		list = append(list, imageOf(512, dataSegment(5, 512, size, nops(size))), imageOf(512, dataSegment(5, 512, 64, nops(size)), dataSegment(4, 768, size, nops(size))))
	}
	return list
}

// someImages are images that are right, and others.
func someImages() []impl.Image {
	list := append(otherImages(), oddImages()...)
	for _, v := range toldTexts() {
		list = append(list, v.image)
	}
	return list
}

// elfCalls are the calls of chapter 11 that take one of these texts.
func elfCalls(texts []string) []call {
	var list []call
	for i, text := range texts {
		list = append(list, call{fmt.Sprint("ReadElf ", i), func() string {
			im, code := impl.ReadElf(text)
			return fmt.Sprintf("%+v %d", im, code)
		}})
	}
	return list
}

// imageCalls are the calls of chapter 11 that take one of these images, or one of them and one of others.
func imageCalls(images, others []impl.Image) []call {
	var list []call
	add := func(name string, make func() string) { list = append(list, call{name, make}) }
	for i, im := range images {
		add(fmt.Sprint("CheckImage ", i), func() string { return fmt.Sprint(impl.CheckImage(im)) })
		add(fmt.Sprint("ImageOK ", i), func() string { return fmt.Sprint(impl.ImageOK(im)) })
		add(fmt.Sprint("ElfText ", i), func() string { return toldBytes(impl.ElfText(im)) })
		add(fmt.Sprint("TextOf ", i), func() string {
			text, at, code := impl.TextOf(im)
			return fmt.Sprintf("%x %d %d", text, at, code)
		})
		for k, other := range others {
			add(fmt.Sprint("SameImage ", i, k), func() string { return fmt.Sprint(impl.SameImage(im, other), impl.SameImage(other, im)) })
		}
	}
	return list
}

// allImageCalls are all the calls of chapter 11.
func allImageCalls() []call {
	return slices.Concat(elfCalls(elfTexts()), imageCalls(someImages(), someImages()[:20]))
}

// TestAlikeTextsOfImages holds for P1.
func TestAlikeTextsOfImages(t *testing.T) { checkAlikeTexts(t, elfTexts, elfCalls) }

// withinOthers is an image alike whose segments stand within a longer list, and that list.
func withinOthers(im impl.Image) (impl.Image, []impl.Segment) {
	end := dataSegment(6, 3328, 1, "")
	around := slices.Concat([]impl.Segment{end}, im.Segments, []impl.Segment{end, codeSegment(512, 32)})
	for i := range im.Segments {
		around[1+i].Data = withinLonger([]string{im.Segments[i].Data})[0]
	}
	im.Segments = around[1 : 1+len(im.Segments)]
	return im, around
}

// TestImagesStay holds for P1: no call changes an image, nor what stands behind its segments, and none asks anything of that.
func TestImagesStay(t *testing.T) {
	images, wants := someImages(), someImages()
	first := someImages()[:9]
	for i, im := range images {
		copied, around := withinOthers(im)
		before := slices.Clone(around)
		checkAlike(t, imageCalls([]impl.Image{im}, first), imageCalls([]impl.Image{copied}, first))
		if !likeImage(im, wants[i]) || !slices.Equal(around, before) {
			t.Errorf("an image is changed: %s, want %s", toldImage(im), toldImage(wants[i]))
		}
		got, code := impl.ReadElf(planOf(im).text())
		if _, c := imageModel(im); c == impl.OK && (code != c || !likeImage(got, wants[i])) {
			t.Errorf("an image is changed: %s, want %s", toldImage(got), toldImage(wants[i]))
		}
	}
}

// TestReadImagesShareNothing holds for P1 and rule 3: what is written into the segments of one answer shows in no other one.
func TestReadImagesShareNothing(t *testing.T) {
	for _, v := range toldTexts() {
		text := planOf(v.image).text()
		first, _ := impl.ReadElf(text)
		second, _ := impl.ReadElf(text)
		all := first.Segments[:cap(first.Segments)]
		for i := range all {
			all[i] = impl.Segment{Flags: -7, Vaddr: -7, Memsz: -7, Data: "spoilt"}
		}
		first.Segments = append(first.Segments, impl.Segment{})
		if !likeImage(second, v.image) {
			t.Errorf("answers share memory: %s, want %s", toldImage(second), toldImage(v.image))
		}
		checkRead(t, text, impl.OK)
	}
}

// TestImagesBesideCodes holds for rule 5: beside a code there is nothing, but the number of a segment that CheckImage names.
func TestImagesBesideCodes(t *testing.T) {
	for i, text := range elfTexts() {
		if im, code := impl.ReadElf(text); code != impl.OK && !likeImage(im, impl.Image{}) {
			t.Errorf("ReadElf of text %d = %s, %q", i, toldImage(im), impl.CodeWord(code))
		}
	}
	named := []int{impl.ErrPerm, impl.ErrSegment, impl.ErrText}
	for _, im := range someImages() {
		where, code := impl.CheckImage(im)
		if where != 0 && !(slices.Contains(named, code) && within(where, 1, len(im.Segments)-1)) {
			t.Errorf("CheckImage(%s) = %d, %q", toldImage(im), where, impl.CodeWord(code))
		}
		if _, want := imageModel(im); code != want {
			t.Errorf("CheckImage(%s) = %q, want %q", toldImage(im), impl.CodeWord(code), impl.CodeWord(want))
		}
		if text, c := impl.ElfText(im); c != impl.OK && (text != "" || c != impl.ErrBad) {
			t.Errorf("ElfText(%s) = %d bytes, %q", toldImage(im), len(text), impl.CodeWord(c))
		}
		if text, at, c := impl.TextOf(im); c != impl.OK && (text != "" || at != 0 || c != impl.ErrBad) {
			t.Errorf("TextOf(%s) = %d bytes, %d, %q", toldImage(im), len(text), at, impl.CodeWord(c))
		}
	}
}
