package tests

import (
	"fmt"
	"math"
	"slices"
	"strings"
	"testing"

	"loop.example/g00664/impl"
)

// loadImages are images that are taken, images that are refused for their code, and images that are not right.
func loadImages() []impl.Image {
	list := someImages()
	for _, v := range toldLoads() {
		list = append(list, v.image)
	}
	for _, v := range refusedCode() {
		list = append(list, programOf(512, v.text), withSegment(programOf(1024, v.text), dataSegment(6, 1536, 300, "data")))
	}
	return list
}

// loadTexts are texts of such images, and others.
func loadTexts() []string {
	list := elfTexts()
	for _, v := range toldLoads() {
		list = append(list, planOf(v.image).text())
	}
	for _, v := range refusedCode() {
		list = append(list, planOf(programOf(512, v.text)).text())
	}
	return list
}

// someLoads are things loaded, and others, with numbers in each field that no call need expect.
func someLoads() []impl.Loaded {
	list := []impl.Loaded{{}, {Report: impl.Report{Starts: []int{}}}}
	for _, v := range toldLoads() {
		l := v.loaded
		list = append(list, l, withLoaded(l, func(l *impl.Loaded) { l.Report = impl.Report{} }), withLoaded(l, func(l *impl.Loaded) { l.Report.Starts = append(l.Report.Starts, make([]int, 5000)...) }))
		for _, m := range []impl.Memory{{}, patchwork(), pagesFrom(16896-256, 33, 7), memory(page(512, 3), page(256, 3)), memory(withData("x"))} {
			list = append(list, withLoaded(l, func(l *impl.Loaded) { l.Memory = m }))
		}
	}
	l := toldLoads()[1].loaded
	for _, n := range slices.Concat(anyNumbers, []int{512, 16896, 17152, math.MaxInt - 255, math.MinInt + 17152}) {
		list = append(list, withLoaded(l, func(l *impl.Loaded) { l.Entry = n }), withLoaded(l, func(l *impl.Loaded) { l.Heap = n }), withLoaded(l, func(l *impl.Loaded) { l.TextAt = n }), withLoaded(l, func(l *impl.Loaded) { l.Size = n }),
			withLoaded(l, func(l *impl.Loaded) { l.Report.At = n }), withLoaded(l, func(l *impl.Loaded) { l.Report.Starts[n&63] = n }), withLoaded(l, func(l *impl.Loaded) { l.Report.Goals[0] = n }), withLoaded(l, func(l *impl.Loaded) { l.Entry, l.Heap, l.TextAt, l.Size = n, n, n, n }))
	}
	return list
}

// loadAnswer is all that a call of chapter 12 answers, as a text.
func loadAnswer(l impl.Loaded, numbers ...int) string {
	return fmt.Sprintf("%s %d %d %d %d %v %v", told(l.Memory, 0), l.Entry, l.Heap, l.TextAt, l.Size, l.Report, numbers)
}

// loadTextCalls are the calls of chapter 12 that take one of these texts.
func loadTextCalls(texts []string) []call {
	var list []call
	for i, text := range texts {
		list = append(list, call{fmt.Sprint("LoadElf ", i), func() string {
			l, where, code := impl.LoadElf(text)
			return loadAnswer(l, where, code)
		}})
	}
	return list
}

// loadImageCalls are those that take one of these images.
func loadImageCalls(images []impl.Image) []call {
	var list []call
	for i, im := range images {
		list = append(list, call{fmt.Sprint("MapImage ", i), func() string {
			l, code := impl.MapImage(im)
			return loadAnswer(l, code)
		}}, call{fmt.Sprint("LoadImage ", i), func() string {
			l, where, code := impl.LoadImage(im)
			return loadAnswer(l, where, code)
		}})
	}
	return list
}

// loadedCalls are those that take one of these things loaded, or its memory.
func loadedCalls(loads []impl.Loaded) []call {
	var list []call
	for i, l := range loads {
		list = append(list, call{fmt.Sprint("LoadedOK ", i), func() string { return fmt.Sprint(impl.LoadedOK(l)) }}, call{fmt.Sprint("PrivateOK ", i), func() string { return fmt.Sprint(impl.PrivateOK(l.Memory)) }})
	}
	return list
}

// loadCalls are all the calls of chapter 12.
func loadCalls() []call {
	list := slices.Concat(loadTextCalls(loadTexts()), loadImageCalls(loadImages()), loadedCalls(someLoads()))
	for _, i := range anyNumbers {
		list = append(list, call{fmt.Sprint("PrivateByte ", i), func() string { return fmt.Sprint(impl.PrivateByte(i)) }})
	}
	return list
}

// TestAlikeTextsAreLoadedAlike holds for P1.
func TestAlikeTextsAreLoadedAlike(t *testing.T) { checkAlikeTexts(t, loadTexts, loadTextCalls) }

// TestLoadedImagesStay holds for P1: no call changes an image, nor what stands behind its segments, and none asks anything of that.
func TestLoadedImagesStay(t *testing.T) {
	images, wants := loadImages(), loadImages()
	for i, im := range images {
		copied, around := withinOthers(im)
		before := slices.Clone(around)
		checkAlike(t, loadImageCalls([]impl.Image{im}), loadImageCalls([]impl.Image{copied}))
		if !likeImage(im, wants[i]) || !slices.Equal(around, before) {
			t.Errorf("an image is changed: %s, want %s", toldImage(im), toldImage(wants[i]))
		}
	}
}

// TestLoadsStay holds for P1: what was loaded, its memory and its report, stays, and what stands behind its lists; an empty list is as nil.
func TestLoadsStay(t *testing.T) {
	loads, wants := someLoads(), someLoads()
	for i, l := range loads {
		copied := l
		copied.Memory = elsewhere(l.Memory)
		behind := copied.Memory.Pages[:len(l.Memory.Pages)+1]
		var around [3][]int
		copied.Report.Starts, around[0] = withinAnother(l.Report.Starts)
		copied.Report.Inner, around[1] = withinAnother(l.Report.Inner)
		copied.Report.Goals, around[2] = withinAnother(l.Report.Goals)
		checkAlike(t, loadedCalls([]impl.Loaded{l}), loadedCalls([]impl.Loaded{copied}))
		if !likeLoaded(l, wants[i]) || !likeLoaded(copied, wants[i]) || behind[len(behind)-1] != page(2048, 2) {
			t.Errorf("what was loaded is changed: %s, want %s", toldLoaded(l), toldLoaded(wants[i]))
		}
		for _, list := range around {
			if list[0] != 0 || !slices.Equal(list[len(list)-3:], []int{3, 4, 5}) {
				t.Errorf("a list has been written behind its end: %v", list)
			}
		}
	}
}

// TestLoadsShareNothing holds for P1 and rule 3: what is written into the pages and lists of one answer shows in no other list, neither of that answer nor of another, nor in the image.
func TestLoadsShareNothing(t *testing.T) {
	for _, v := range toldLoads() {
		text := planOf(v.image).text()
		others := func() []impl.Loaded {
			a, _, _ := impl.LoadImage(v.image)
			b, _, _ := impl.LoadElf(text)
			c, _ := impl.MapImage(v.image)
			c.Report = v.loaded.Report
			return []impl.Loaded{a, b, c}
		}
		for which := range 3 {
			kept, spoilt := others(), others()[which]
			spoil(spoilt.Memory.Pages)
			if !sameReport(spoilt.Report, v.loaded.Report) {
				t.Errorf("pages and lists of one answer share memory: %s", toldLoaded(spoilt))
			}
			if which < 2 {
				spoilNumbers(spoilt.Report.Starts)
				if !slices.Equal(spoilt.Report.Inner, v.loaded.Report.Inner) || !slices.Equal(spoilt.Report.Goals, v.loaded.Report.Goals) {
					t.Errorf("lists of one answer share memory: %s", toldLoaded(spoilt))
				}
				spoilNumbers(spoilt.Report.Inner)
				if !slices.Equal(spoilt.Report.Goals, v.loaded.Report.Goals) {
					t.Errorf("lists of one answer share memory: %s", toldLoaded(spoilt))
				}
				spoilNumbers(spoilt.Report.Goals)
			}
			for _, l := range append(kept, others()...) {
				if !likeLoaded(l, v.loaded) {
					t.Errorf("answers share memory: %s, want %s", toldLoaded(l), toldLoaded(v.loaded))
				}
			}
		}
	}
}

// TestLoadsBesideCodes holds for rule 5: beside a code there is nothing, but where the validator, or Entry, is told.
func TestLoadsBesideCodes(t *testing.T) {
	placed := map[int]bool{}
	check := func(name string, l impl.Loaded, where, code int, im impl.Image) {
		t.Helper()
		_, wrong := imageModel(im)
		if code != impl.OK && !likeLoaded(l, impl.Loaded{}) || where != 0 && (code == impl.OK || wrong != impl.OK) || wrong != impl.OK && code != wrong {
			t.Errorf("%s of %s = %s, %d, %q", name, toldImage(im), toldLoaded(l), where, impl.CodeWord(code))
		}
		if where != 0 {
			placed[code] = true
		}
	}
	for _, im := range loadImages() {
		l, where, code := impl.LoadImage(im)
		check("LoadImage", l, where, code, im)
		l, code = impl.MapImage(im)
		check("MapImage", l, 0, code, im)
		if _, c := imageModel(im); c == impl.OK {
			l, where, code = impl.LoadElf(planOf(im).text())
			check("LoadElf", l, where, code, im)
		}
	}
	for i, text := range loadTexts() {
		l, where, code := impl.LoadElf(text)
		if _, c := elfModel(text); c != impl.OK && (code != c || where != 0 || !likeLoaded(l, impl.Loaded{})) {
			t.Errorf("LoadElf of text %d = %s, %d, %q", i, toldLoaded(l), where, impl.CodeWord(code))
		}
	}
	if len(placed) < 10 {
		t.Errorf("few codes have a place: %v", placed)
	}
}

// TestLongTextsAreNotLoaded holds for rule 8: what is too long is told ahead of all else.
func TestLongTextsAreNotLoaded(t *testing.T) {
	for _, begin := range []string{"", "x", planOf(programOf(512, hlt)).text(), planOf(programOf(512, "\xc3")).text(), planOf(imageOf(3, codeSegment(512, 32))).text()} {
		for _, size := range []int{65537, 65538, 131072} {
			text := begin + strings.Repeat("x", size-len(begin))
			if l, where, code := impl.LoadElf(text); !likeLoaded(l, impl.Loaded{}) || where != 0 || code != impl.ErrLong {
				t.Errorf("LoadElf of %d bytes = %s, %d, %q", size, toldLoaded(l), where, impl.CodeWord(code))
			}
		}
		if _, _, code := impl.LoadElf(begin + strings.Repeat("x", 65536-len(begin))); code == impl.ErrLong {
			t.Error("a text of 65536 bytes is too long")
		}
	}
}
