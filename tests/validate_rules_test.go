package tests

import (
	"fmt"
	"math"
	"slices"
	"strings"
	"testing"

	"loop.example/g00664/impl"
)

// TestLengthsOfCode has texts of each length that is wrong, wherever they stand: that comes ahead of the place, and of all instructions.
func TestLengthsOfCode(t *testing.T) {
	for _, fill := range []string{hlt, "\xc3", "\x0f"} {
		for size := range 3200 {
			if size > 0 && size%32 == 0 && size <= 3072 {
				continue
			}
			for _, at := range []int{16896, 16897, 0} {
				checkValidate(t, strings.Repeat(fill, size), at, impl.Report{}, impl.ErrText)
			}
		}
	}
	for _, at := range slices.Concat([]int{16896, 16928, 19936, 19968, 16897, 0, -1, 16384}, farNumbers) {
		for _, v := range []struct{ size, code int }{{0, impl.ErrText}, {31, impl.ErrText}, {33, impl.ErrText}, {3073, impl.ErrText}, {3104, impl.ErrText}, {4096, impl.ErrText}, {65535, impl.ErrText}, {65536, impl.ErrText}, {65537, impl.ErrLong}, {65568, impl.ErrLong}, {131072, impl.ErrLong}} {
			checkShort(t, strings.Repeat(hlt, v.size), at, v.code)
		}
	}
}

// checkShort tells of a text its length alone.
func checkShort(t *testing.T, text string, at, code int) {
	t.Helper()
	if got, c := impl.Validate(text, at); !sameReport(got, impl.Report{}) || c != code {
		t.Errorf("Validate of %d bytes at %d = %+v, %d, want %d", len(text), at, got, c, code)
	}
}

// TestPlaceAheadOfInstructions: a place that is wrong comes ahead of all that is wrong with the instructions.
func TestPlaceAheadOfInstructions(t *testing.T) {
	for _, text := range []string{"\xc3", "\x0f\x0b", "\xeb\x7f", nops(32), "\x48\x89\x18"} {
		for _, at := range slices.Concat([]int{16895, 16897, 16912, 16864, 16384, 19968, 20000, 0, -32}, farNumbers) {
			checkShort(t, filled(text), at, impl.ErrRange)
			checkShort(t, filled(text)+hlt, at, impl.ErrText)
		}
	}
}

// validateTexts are texts that are taken, and others.
func validateTexts() []string {
	list := append(anyTexts(), nops(32), strings.Repeat(hlt, 64), strings.Repeat(hlt, 3072), strings.Repeat(hlt, 3104))
	for _, text := range []string{masking(1, 4095) + reading(indexedBy(1, 0)), masking(1, 4064) + basing(1) + through(impl.OpJmp, ofReg(1)), "\x83\xec\x08" + masking(4, 4095) + basing(4), going(impl.OpJmp, 0, 16640-codeAt), "\xeb\xfe\x74\xfc", "\x0f\x0b", "\xc3", "\x49\x89\xc7", "\x89\xc4", "\x48\x89\x18",
		"\x49\x8b\x87\x00\x08\x00\x00", "\x48\x8b\x05\x20\x4e\x00\x00", "\x48\x8b\x05\x00\x00\x00\x00", "\xff\xe0", "\xe8\x00\x00\x00\x00", "\xeb\x7f", nops(31) + "\x48\x89\xd8", lastly(going(impl.OpCall, 27, 0)) + hlt, nops(31) + "\x66"} {
		list = append(list, filled(text), strings.Repeat(hlt, 32)+filled(text))
	}
	return list
}

// validateReports are reports of texts, and others.
func validateReports() []impl.Report {
	list := []impl.Report{{}, {Starts: []int{}, Inner: []int{}, Goals: []int{}}, {Starts: upTo(32), Inner: []int{3, 9}, Goals: []int{3}, At: 5}, {Starts: []int{9, -1, math.MaxInt, 0, 9}, Inner: []int{math.MinInt, 0}}}
	for _, text := range validateTexts() {
		if r, code := impl.Validate(text, codeAt); code == impl.OK {
			list = append(list, r)
		}
	}
	return list
}

// textValidates are the calls of chapter 10 that take one of these texts.
func textValidates(texts []string) []call {
	var list []call
	for i, text := range texts {
		list = append(list, call{fmt.Sprint("Padded ", i), func() string { return toldBytes(impl.Padded(text)) }})
		for _, at := range slices.Concat(anyNumbers, []int{16896, codeAt, 16897, 19936, 19968}) {
			list = append(list, call{fmt.Sprint("Validate ", i, at), func() string { return fmt.Sprint(impl.Validate(text, at)) }})
		}
	}
	return list
}

// reportCalls are the calls of chapter 10 that take one of these reports.
func reportCalls(reports []impl.Report) []call {
	var list []call
	for i, r := range reports {
		for _, goal := range anyNumbers {
			for _, size := range []int{0, 1, 9, 10, 32, 64, -1, math.MaxInt, math.MinInt} {
				list = append(list, call{fmt.Sprint("MayGo ", i, size, goal), func() string { return fmt.Sprint(impl.MayGo(r, size, goal)) }})
			}
		}
	}
	return list
}

// validateCalls are all the calls of chapter 10.
func validateCalls(texts []string) []call {
	list := slices.Concat(textValidates(texts), reportCalls(validateReports()))
	for _, a := range slices.Concat(anyNumbers, []int{4096, 12288, 16384, 16640, 16672, 16896, 20480, 24575, 32768}) {
		list = append(list, call{fmt.Sprint("ZoneOf ", a), func() string { return fmt.Sprint(impl.ZoneOf(a)) }}, call{fmt.Sprint("TrampolineOf ", a), func() string { return fmt.Sprint(impl.TrampolineOf(a)) }})
		for _, b := range slices.Concat(anyNumbers, []int{4064, 4095, 4096}) {
			list = append(list, call{fmt.Sprint("Masked ", a, b), func() string { return fmt.Sprint(impl.Masked(a, b)) }})
		}
	}
	return list
}

// TestAlikeCodeIsJudgedAlike holds for P1.
func TestAlikeCodeIsJudgedAlike(t *testing.T) { checkAlikeTexts(t, validateTexts, textValidates) }

func cloned(r impl.Report) impl.Report {
	return impl.Report{Starts: slices.Clone(r.Starts), Inner: slices.Clone(r.Inner), Goals: slices.Clone(r.Goals), At: r.At}
}

// within another list, whose ends are told apart, a list is alike.
func withinAnother(list []int) (copied, around []int) {
	around = slices.Concat([]int{0}, list, []int{3, 4, 5})
	return around[1 : 1+len(list)], around
}

// TestReportsStay holds for P1: MayGo changes no list, nor what stands behind one, and asks nothing of that.
func TestReportsStay(t *testing.T) {
	for _, r := range validateReports() {
		want, copied := cloned(r), impl.Report{At: r.At}
		var around [3][]int
		copied.Starts, around[0] = withinAnother(r.Starts)
		copied.Inner, around[1] = withinAnother(r.Inner)
		copied.Goals, around[2] = withinAnother(r.Goals)
		checkAlike(t, reportCalls([]impl.Report{r}), reportCalls([]impl.Report{copied}))
		if !sameReport(r, want) || !sameReport(copied, want) {
			t.Errorf("a report is changed: %+v, %+v, want %+v", r, copied, want)
		}
		for _, list := range around {
			if list[0] != 0 || !slices.Equal(list[len(list)-3:], []int{3, 4, 5}) {
				t.Errorf("a list has been written behind its end: %v", list)
			}
		}
	}
}

// TestReportsShareNothing holds for P1 and rule 3: what is written into a list shows in no other one, neither of that answer nor of another.
func TestReportsShareNothing(t *testing.T) {
	for _, text := range validateTexts() {
		first, code := impl.Validate(text, codeAt)
		if code != impl.OK {
			continue
		}
		want := cloned(first)
		second, _ := impl.Validate(text, codeAt)
		spoilNumbers(first.Starts)
		if !slices.Equal(first.Inner, want.Inner) || !slices.Equal(first.Goals, want.Goals) {
			t.Errorf("lists of one answer share memory: %+v, want %+v", first, want)
		}
		spoilNumbers(first.Inner)
		if !slices.Equal(first.Goals, want.Goals) {
			t.Errorf("lists of one answer share memory: %+v, want %+v", first, want)
		}
		spoilNumbers(first.Goals)
		first.Goals, first.Inner, first.Starts = append(first.Goals, 1), append(first.Inner, 2), append(first.Starts, 3)
		if !sameReport(second, want) {
			t.Errorf("answers share memory: %+v, want %+v", second, want)
		}
		checkValidate(t, text, codeAt, want, impl.OK)
	}
}

// TestReportsBesideCodes holds for rule 5: beside a code there is nothing but At, and that is an offset of the text, if the text and its place are right.
func TestReportsBesideCodes(t *testing.T) {
	codes := map[int]int{}
	for _, text := range validateTexts() {
		for _, at := range []int{16896, codeAt, 19936, 16897, 0, math.MaxInt} {
			r, code := impl.Validate(text, at)
			codes[code]++
			placed := len(text) > 0 && len(text)%32 == 0 && len(text) <= 3072 && at%32 == 0 && within(at, 16896, 19968-len(text))
			if code != impl.OK && (!sameReport(r, impl.Report{At: r.At}) || r.At != 0 && !placed || !within(r.At, 0, max(len(text)-1, 0))) {
				t.Errorf("Validate(% x, %d) = %+v, %d", text, at, r, code)
			}
		}
	}
	for _, code := range []int{impl.OK, impl.ErrLong, impl.ErrRange, impl.ErrText, impl.ErrOpcode, impl.ErrEnd, impl.ErrBundle, impl.ErrUnsafe, impl.ErrBase, impl.ErrStack, impl.ErrMask, impl.ErrDisp, impl.ErrRip, impl.ErrIndirect, impl.ErrCall, impl.ErrTarget} {
		if codes[code] == 0 {
			t.Errorf("no text has the code %q", impl.CodeWord(code))
		}
	}
}
