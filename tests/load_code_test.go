package tests

import (
	"strings"
	"testing"

	"loop.example/g00664/impl"
)

// refusedCode is code that the validator refuses, with each of its codes but those of length and place.
func refusedCode() []refusedCase {
	return []refusedCase{
		{"\x0f\x0b", 0, impl.ErrOpcode}, {nops(9) + "\x0f\x0b", 9, impl.ErrOpcode}, {"\x66\x66\x90", 0, impl.ErrPrefix}, {nops(4) + "\x66\x50", 4, impl.ErrPrefix}, {nops(2) + "\x8d\xc0", 2, impl.ErrOperand},
		{nops(31) + "\x48\x89\xd8", 31, impl.ErrBundle}, {nops(8) + "\xc3", 8, impl.ErrUnsafe}, {nops(40) + "\x0f\x05", 40, impl.ErrUnsafe}, {"\xcd\x80", 0, impl.ErrUnsafe},
		{nops(3) + "\x49\x89\xc7", 3, impl.ErrBase}, {nops(1) + "\x89\xc4", 1, impl.ErrStack}, {masking(4, 4095), 0, impl.ErrStack}, {nops(7) + "\x48\x89\x18", 7, impl.ErrMask}, {masking(1, 4064) + reading(indexedBy(1, 0)), 6, impl.ErrMask},
		{nops(2) + "\x49\x8b\x87\x00\x08\x00\x00", 2, impl.ErrDisp}, {nops(20) + "\x48\x8b\x05\x20\x4e\x00\x00", 20, impl.ErrRip}, {nops(30) + "\xff\xe0", 30, impl.ErrIndirect}, {"\xe8\x00\x00\x00\x00", 0, impl.ErrCall},
		{nops(5) + "\xeb\x7f\x75\xf7" + "\xe9\x00\x70\x00\x00", 9, impl.ErrTarget}, {"\x74\xff", 0, impl.ErrTarget}, {masking(1, 4095) + reading(indexedBy(1, 0)) + "\xeb\xfa", 10, impl.ErrTarget},
	}
}

// checkNotLoaded looks at images whose code the validator refuses: with its code, and with the offset.
func checkNotLoaded(t *testing.T, im impl.Image, where, code int) {
	t.Helper()
	j := newJudge(t)
	checkLoaded(t, im, impl.Loaded{}, where, code)
	if c := j.load(im); c != code {
		t.Errorf("the tests' own answers %q of %s, want %q", impl.CodeWord(c), toldImage(im), impl.CodeWord(code))
	}
	checkMap(t, im, loadedModel(im), impl.OK)
}

// TestRefusedCode has each code of the validator, from the text's beginning and from other bundles on, ahead of other segments and behind them.
func TestRefusedCode(t *testing.T) {
	for _, v := range refusedCode() {
		checkNotLoaded(t, programOf(512, v.text), v.where, v.code)
		checkNotLoaded(t, programOf(3072, strings.Repeat(hlt, 288)+v.text), v.where+288, v.code)
		im := imageOf(1536, dataSegment(6, 768, 700, "\xc3"), programOf(1536, nops(32)+v.text).Segments[0], dataSegment(4, 3328, 3, "\xc3"))
		checkNotLoaded(t, im, v.where+32, v.code)
		im.Entry = 1568
		checkNotLoaded(t, im, v.where+32, v.code)
	}
}

// TestLastOfLoadedCode: the last instruction is the last one of its page, which is a hlt unless the code fills it.
func TestLastOfLoadedCode(t *testing.T) {
	j := newJudge(t)
	for _, bundles := range []int{1, 2, 7, 9, 15, 95} {
		im := programOf(512, nops(32*bundles))
		if code := j.load(im); code != impl.OK {
			t.Errorf("nops, with hlts behind them, have the code %q", impl.CodeWord(code))
		}
	}
	for _, bundles := range []int{8, 16, 96} {
		checkNotLoaded(t, programOf(512, nops(32*bundles)), 32*bundles-1, impl.ErrText)
	}
	checkNotLoaded(t, programOf(512, nops(252)+"\x74\x02"+hlt+nop), 255, impl.ErrText)
	checkNotLoaded(t, programOf(512, nops(251)+going(impl.OpCall, 251, 0)), 251, impl.ErrText)
	checkNotLoaded(t, programOf(512, nops(250)+going(impl.OpJcc, 250, 0)), 250, impl.ErrText)
	// What is cut off in the midst of a page crosses its bundle's end, and at the end of a page it is cut off.
	checkNotLoaded(t, programOf(512, nops(223)+"\xe9"), 223, impl.ErrBundle)
	checkNotLoaded(t, programOf(512, nops(252)+"\xe9\x00\x00\x00"), 252, impl.ErrEnd)
	checkNotLoaded(t, programOf(512, nops(255)+"\x0f"), 255, impl.ErrEnd)
	checkNotLoaded(t, withSegment(programOf(512, nops(255)+"\x48"), dataSegment(4, 768, 2, "\x89\xd8")), 255, impl.ErrEnd)
	for _, im := range []impl.Image{programOf(512, nops(27)+going(impl.OpCall, 27, 0)), programOf(768, nops(59)+going(impl.OpCall, 59, 64)), programOf(512, nops(251)+going(impl.OpJmp, 251, 0)), programOf(512, nops(255)+hlt)} {
		if code := j.load(im); code != impl.OK {
			t.Errorf("%s has the code %q", toldImage(im), impl.CodeWord(code))
		}
	}
}

// TestGoalsBehindLoadedCode: a jump may go to what stands behind the code, up to the end of its last page.
func TestGoalsBehindLoadedCode(t *testing.T) {
	j := newJudge(t)
	for goal := -300; goal < 600; goal++ {
		im := withSegment(programOf(768, going(impl.OpJmp, 0, goal)+nops(11)), dataSegment(6, 1024, 200, nops(200)))
		tramp := 17152 + goal - 16640
		if goal == 0 || within(goal, 5, 255) || within(tramp, 0, 255) && tramp%32 == 0 {
			l, where, code := impl.LoadImage(im)
			if len(l.Report.Goals) != 1 || l.Report.Goals[0] != goal || l.Size != 256 || where != 0 || code != impl.OK {
				t.Errorf("a jump to %d: %s, %d, %d", goal, toldLoaded(l), where, code)
			}
			j.load(im)
			continue
		}
		checkLoaded(t, im, impl.Loaded{}, 0, impl.ErrTarget)
	}
	checkNotLoaded(t, programOf(512, strings.Repeat(hlt, 224)+going(impl.OpJmp, 224, 256)), 224, impl.ErrTarget)
	checkNotLoaded(t, programOf(512, strings.Repeat(hlt, 224)+nops(2)+going(impl.OpJcc, 226, 257)), 226, impl.ErrTarget)
	if code := j.load(programOf(512, strings.Repeat(hlt, 256)+going(impl.OpJmp, 256, 511))); code != impl.OK {
		t.Errorf("a jump to the last byte of a page has the code %q", impl.CodeWord(code))
	}
}

// TestEntryAheadOfCode: an Entry that is no start, in the midst of an instruction, or inner begins no bundle, so that the image is not right, whatever its code does.
func TestEntryAheadOfCode(t *testing.T) {
	inner := masking(1, 4095) + reading(indexedBy(1, 0))
	leap := masking(1, 4064) + basing(1) + through(impl.OpJmp, ofReg(1))
	for _, text := range []string{inner, leap, masking(4, 4095) + basing(4), nops(32) + inner, "\xc3", nops(31) + "\x48\x89\xd8", inner + "\x0f\x05"} {
		for offset := -31; offset < 64; offset++ {
			im := programOf(1024, text)
			im.Entry = 1024 + offset
			if offset%32 != 0 || !within(offset, 0, im.Segments[0].Memsz-1) {
				checkMap(t, im, impl.Loaded{}, impl.ErrEntry)
				checkLoaded(t, im, impl.Loaded{}, 0, impl.ErrEntry)
			}
		}
	}
	// In the midst of an instruction that crosses the end of its bundle the instruction is told.
	im := programOf(1024, nops(31)+"\x48\x89\xd8")
	im.Entry = 1056
	checkNotLoaded(t, im, 31, impl.ErrBundle)
	// In what stands behind the code there is no Entry, though a jump may go there.
	im = programOf(1024, nops(32))
	for _, entry := range []int{1056, 1088, 1248, 1280} {
		im.Entry = entry
		checkLoaded(t, im, impl.Loaded{}, 0, impl.ErrEntry)
	}
}

// TestLoadedTexts has texts that are offered as images: ReadElf's codes come ahead, and name no place.
func TestLoadedTexts(t *testing.T) {
	codes := map[int]int{}
	for _, text := range elfTexts() {
		im, want := elfModel(text)
		got, where, code := impl.LoadElf(text)
		codes[want]++
		if want != impl.OK {
			if code != want || where != 0 || !likeLoaded(got, impl.Loaded{}) {
				t.Errorf("LoadElf of %d bytes = %s, %d, %q, want %q", len(text), toldLoaded(got), where, impl.CodeWord(code), impl.CodeWord(want))
			}
			continue
		}
		l, w, c := impl.LoadImage(im)
		if !likeLoaded(got, l) || where != w || code != c {
			t.Errorf("LoadElf of %s = %s, %d, %q", toldImage(im), toldLoaded(got), where, impl.CodeWord(code))
		}
	}
	for _, code := range []int{impl.OK, impl.ErrLong, impl.ErrEnd, impl.ErrMagic, impl.ErrMany, impl.ErrNone, impl.ErrPerm, impl.ErrSegment, impl.ErrText, impl.ErrEntry} {
		if codes[code] == 0 {
			t.Errorf("no text has the code %q", impl.CodeWord(code))
		}
	}
	text := planOf(programOf(512, "\xc3")).text()
	for more, want := range map[int]int{0: impl.ErrUnsafe, 1: impl.ErrUnsafe, 65536 - len(text): impl.ErrUnsafe, 65537 - len(text): impl.ErrLong, 70000: impl.ErrLong} {
		if l, where, code := impl.LoadElf(text + strings.Repeat("x", more)); !likeLoaded(l, impl.Loaded{}) || where != 0 || code != want {
			t.Errorf("LoadElf of %d bytes more = %s, %d, %q", more, toldLoaded(l), where, impl.CodeWord(code))
		}
	}
}

// TestTextAheadOfCode: what is wrong with a text, and with the image that it is, comes ahead of what its code does.
func TestTextAheadOfCode(t *testing.T) {
	for _, v := range refusedCode() {
		plan := planOf(withSegment(programOf(512, v.text), dataSegment(6, 1024, 9, "data")))
		text := plan.text()
		for _, wrong := range []struct {
			text string
			code int
		}{
			{text[:63], impl.ErrEnd}, {text[:175], impl.ErrEnd}, {text[:len(text)-1], impl.ErrEnd}, {"x" + text, impl.ErrMagic},
			{plan.changed(func(p *elfPlan) { p.head.Phnum = 5 }).text(), impl.ErrMany}, {plan.changed(func(p *elfPlan) { p.head.Phnum = 0 }).text(), impl.ErrNone},
			{plan.changed(func(p *elfPlan) { p.progs[1].Align = 4096 }).text(), impl.ErrSegment}, {plan.changed(func(p *elfPlan) { p.progs[1].Flags = 7 }).text(), impl.ErrPerm},
			{plan.changed(func(p *elfPlan) { p.progs[1].Memsz = 3 }).text(), impl.ErrSegment}, {plan.changed(func(p *elfPlan) { p.progs[0].Flags = 6 }).text(), impl.ErrText}, {plan.changed(func(p *elfPlan) { p.head.Entry++ }).text(), impl.ErrEntry},
		} {
			if _, c := elfModel(wrong.text); c != wrong.code {
				t.Errorf("the tests' own reader answers %q, want %q", impl.CodeWord(c), impl.CodeWord(wrong.code))
			}
			if l, where, c := impl.LoadElf(wrong.text); !likeLoaded(l, impl.Loaded{}) || where != 0 || c != wrong.code {
				t.Errorf("LoadElf = %s, %d, %q, want %q", toldLoaded(l), where, impl.CodeWord(c), impl.CodeWord(wrong.code))
			}
		}
		if l, where, c := impl.LoadElf(text); !likeLoaded(l, impl.Loaded{}) || where != v.where || c != v.code {
			t.Errorf("LoadElf = %s, %d, %q, want %d, %q", toldLoaded(l), where, impl.CodeWord(c), v.where, impl.CodeWord(v.code))
		}
	}
}
