package tests

import (
	"fmt"
	"slices"
	"strings"
	"testing"

	"loop.example/g00664/impl"
)

// optabNumbers are bytes, groups, digits, operations, conditions, registers and sizes, right ones and others.
var optabNumbers = slices.Concat(anyNumbers, []int{6, 10, 14, 15, 16, 19, 20, 44, 45, 99, 128, 144, 191, 254})

// optabTexts are names and texts that are none.
func optabTexts() []string {
	return slices.Concat(anyTexts(), chapterNames(), []string{"ADD", "O", "RAX", " add", "o ", "r16", "ra", "rax" + strings.Repeat(" ", impl.MaxText)})
}

// nameCalls are the calls of chapter 4 that take one of these texts.
func nameCalls(texts []string) []call {
	var list []call
	add := func(make func() string, name ...any) { list = append(list, call{fmt.Sprint(name...), make}) }
	for i, t := range texts {
		add(func() string { return fmt.Sprint(impl.OpOf(t)) }, "OpOf ", i)
		add(func() string { return fmt.Sprint(impl.CondOf(t)) }, "CondOf ", i)
		add(func() string { return fmt.Sprint(impl.RegOf(t)) }, "RegOf ", i)
	}
	return list
}

// optabCalls are all the calls of chapter 4.
func optabCalls(texts []string) []call {
	list := nameCalls(texts)
	add := func(make func() string, name ...any) { list = append(list, call{fmt.Sprint(name...), make}) }
	for _, a := range optabNumbers {
		add(func() string { return fmt.Sprint(impl.ShapeOf(false, a)) }, "ShapeOf ", a)
		add(func() string { return fmt.Sprint(impl.ShapeOf(true, a)) }, "ShapeOf second ", a)
		add(func() string { return fmt.Sprint(impl.ClassOf(a)) }, "ClassOf ", a)
		add(func() string { return impl.OpName(a) }, "OpName ", a)
		add(func() string { return impl.CondName(a) }, "CondName ", a)
		for _, b := range optabNumbers {
			add(func() string { return fmt.Sprint(impl.GroupOp(a, b)) }, "GroupOp ", a, b)
			add(func() string { return impl.RegName(a, b) }, "RegName ", a, b)
		}
	}
	return list
}

// TestAlikeNamesHaveAlikeAnswers holds for P1.
func TestAlikeNamesHaveAlikeAnswers(t *testing.T) { checkAlikeTexts(t, optabTexts, nameCalls) }

// TestAllElseIsZeroInTheTables holds for rule 5: beside a code other than 0 there is nothing, and each code is one that chapter 4 names.
func TestAllElseIsZeroInTheTables(t *testing.T) {
	for _, a := range optabNumbers {
		for _, second := range []bool{false, true} {
			if shape, code := impl.ShapeOf(second, a); code != impl.OK && (shape != impl.Shape{} || code != impl.ErrRange && code != impl.ErrOpcode) {
				t.Error("ShapeOf", second, a, shape, code)
			}
		}
		if class, code := impl.ClassOf(a); code != impl.OK && (class != 0 || code != impl.ErrRange) {
			t.Error("ClassOf", a, class, code)
		}
		for _, b := range optabNumbers {
			if op, code := impl.GroupOp(a, b); code != impl.OK && (op != 0 || code != impl.ErrRange && code != impl.ErrOpcode) {
				t.Error("GroupOp", a, b, op, code)
			}
		}
	}
	for i, s := range optabTexts() {
		if reg, size, code := impl.RegOf(s); code != impl.OK && (reg != 0 || size != 0 || code != impl.ErrForm && code != impl.ErrLong) {
			t.Error("RegOf", i, reg, size, code)
		}
	}
}
