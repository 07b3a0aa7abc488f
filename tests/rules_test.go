package tests

import (
	"fmt"
	"math"
	"slices"
	"strings"
	"sync"
	"testing"

	"loop.example/g00664/impl"
)

// A call is one call of the program with its arguments bound; it answers all its results, told as a text.
type call struct {
	name string
	make func() string
}

// anyNumbers are integers that no call need expect.
var anyNumbers = []int{0, 1, 2, 3, 4, 5, 7, 8, 9, 35, 36, 255, 256, -1, -2, -8, -128, 1 << 31, 1 << 32, -1 << 31, math.MaxInt - 8, math.MaxInt - 7, math.MaxInt, math.MinInt, math.MinInt + 8}

// anyTexts are texts that no call need expect.
func anyTexts() []string {
	return []string{"", "a", "ok", "done", "0", "00", "0g", "00ff", "FF", "_a9", "\x00", "\xff\xfe\x80", "12345678", "0123456789abcdef",
		strings.Repeat("a", impl.MaxName), strings.Repeat("a", impl.MaxName+1), strings.Repeat("0", impl.MaxText/2), strings.Repeat("0", impl.MaxText/2+1),
		strings.Repeat("f", impl.MaxText), strings.Repeat("f", impl.MaxText+1), strings.Repeat("f", impl.MaxText+2)}
}

// numberCalls are the calls of chapters 1 and 2 that take numbers alone.
func numberCalls() []call {
	var list []call
	add := func(name string, make func() string) { list = append(list, call{name, make}) }
	for _, a := range anyNumbers {
		add(fmt.Sprint("CodeWord ", a), func() string { return impl.CodeWord(a) })
		for _, b := range anyNumbers {
			add(fmt.Sprint("SignOf ", a, b), func() string { return fmt.Sprint(impl.SignOf(a, b)) })
			add(fmt.Sprint("ZeroOf ", a, b), func() string { return fmt.Sprint(impl.ZeroOf(a, b)) })
			add(fmt.Sprint("PutLittle ", a, b), func() string { return fmt.Sprint(impl.PutLittle(a, b)) })
			add(fmt.Sprint("BelowU ", a, b), func() string { return fmt.Sprint(impl.BelowU(a, b)) })
			add(fmt.Sprint("MulWide ", a, b), func() string { return fmt.Sprint(impl.MulWide(a, b)) })
			for _, c := range anyNumbers {
				add(fmt.Sprint("DivideWide ", a, b, c), func() string { return fmt.Sprint(impl.DivideWide(a, b, c)) })
			}
		}
	}
	return list
}

// textCalls are the calls of chapters 1 and 2 that take one of these texts.
func textCalls(texts []string) []call {
	var list []call
	add := func(name string, make func() string) { list = append(list, call{name, make}) }
	for i, t := range texts {
		add(fmt.Sprint("NameOK ", i), func() string { return fmt.Sprint(impl.NameOK(t)) })
		add(fmt.Sprint("CodeOf ", i), func() string { return fmt.Sprint(impl.CodeOf(t)) })
		add(fmt.Sprint("HexOf ", i), func() string { return impl.HexOf(t) })
		add(fmt.Sprint("BytesOf ", i), func() string { return fmt.Sprint(impl.BytesOf(t)) })
		for _, at := range anyNumbers {
			for _, size := range anyNumbers {
				add(fmt.Sprint("TakeLittle ", i, at, size), func() string { return fmt.Sprint(impl.TakeLittle(t, at, size)) })
			}
		}
	}
	return list
}

// allCalls are the calls of all chapters that are built.
func allCalls(texts []string) []call {
	return slices.Concat(numberCalls(), textCalls(texts), memoryCalls(someMemories(), memoryTexts()), optabCalls(optabTexts()), decodeCalls(decodeTexts()), encodeCalls(decodeTexts()), flagsCalls(), cpuCalls(), effectsCalls(), validateCalls(validateTexts()), allImageCalls(), loadCalls(), serviceCalls(), runCalls())
}

func answersOf(list []call) []string {
	answers := make([]string, len(list))
	for i, c := range list {
		answers[i] = c.make()
	}
	return answers
}

// TestAnswersHangOnArgumentsAlone holds for P1: no call panics, and neither the calls ahead nor those beside it change an answer.
func TestAnswersHangOnArgumentsAlone(t *testing.T) {
	list := allCalls(anyTexts())
	first := answersOf(list)
	for i := len(list) - 1; i >= 0; i-- {
		if got := list[i].make(); got != first[i] {
			t.Fatalf("%s: %.60q, then %.60q", list[i].name, first[i], got)
		}
	}
	var group sync.WaitGroup
	beside := make([][]string, 4)
	for i := range beside {
		group.Go(func() { beside[i] = answersOf(list) })
	}
	group.Wait()
	for _, answers := range beside {
		for i, got := range answers {
			if got != first[i] {
				t.Fatalf("%s: %.60q, beside others %.60q", list[i].name, first[i], got)
			}
		}
	}
}

// withinLonger are texts that are alike but lie elsewhere, within longer ones.
func withinLonger(texts []string) []string {
	copies := make([]string, len(texts))
	for i, s := range texts {
		copies[i] = ("<<<" + s + ">>>")[3 : 3+len(s)]
	}
	return copies
}

// checkAlike makes the calls of two lists, whose arguments are alike one by one.
func checkAlike(t *testing.T, list, others []call) {
	answers, otherAnswers := answersOf(list), answersOf(others)
	for i := range answers {
		if answers[i] != otherAnswers[i] {
			t.Fatalf("%s: %.60q and %.60q", list[i].name, answers[i], otherAnswers[i])
		}
	}
}

// checkAlikeTexts makes the calls of texts, and of texts that are alike but lie within longer ones, and looks that all of them stay.
func checkAlikeTexts(t *testing.T, textsOf func() []string, callsOf func([]string) []call) {
	t.Helper()
	texts, want := textsOf(), textsOf()
	copies := withinLonger(texts)
	checkAlike(t, callsOf(texts), callsOf(copies))
	if !slices.Equal(texts, want) || !slices.Equal(copies, want) {
		t.Error("a text is changed")
	}
}

// TestAlikeArgumentsHaveAlikeAnswers holds for P1.
func TestAlikeArgumentsHaveAlikeAnswers(t *testing.T) { checkAlikeTexts(t, anyTexts, textCalls) }

// TestAllElseIsZero holds for rule 5: beside a code other than 0 there is nothing.
func TestAllElseIsZero(t *testing.T) {
	texts := anyTexts()
	for _, a := range anyNumbers {
		for _, b := range anyNumbers {
			if n, code := impl.SignOf(a, b); code != impl.OK && n != 0 {
				t.Error("SignOf", a, b, n, code)
			}
			if n, code := impl.ZeroOf(a, b); code != impl.OK && n != 0 {
				t.Error("ZeroOf", a, b, n, code)
			}
			if s, code := impl.PutLittle(a, b); code != impl.OK && s != "" {
				t.Error("PutLittle", a, b, s, code)
			}
			for _, c := range anyNumbers {
				if q, r, code := impl.DivideWide(a, b, c); code != impl.OK && (q != 0 || r != 0) {
					t.Error("DivideWide", a, b, c, q, r, code)
				}
			}
			for i, s := range texts {
				if n, code := impl.TakeLittle(s, a, b); code != impl.OK && n != 0 {
					t.Error("TakeLittle", i, a, b, n, code)
				}
			}
		}
	}
	for i, s := range texts {
		if got, code := impl.BytesOf(s); code != impl.OK && got != "" {
			t.Error("BytesOf", i, len(got), code)
		}
	}
}
