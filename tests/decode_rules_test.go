package tests

import (
	"fmt"
	"hash/fnv"
	"math"
	"slices"
	"strings"
	"testing"

	"loop.example/g00664/impl"
)

// decodeNumbers are places in texts, and others.
var decodeNumbers = slices.Concat(anyNumbers, []int{6, 10, 15, 20, impl.MaxText - 1, impl.MaxText, impl.MaxText + 1})

// decodeTexts are instructions, and texts that are none.
func decodeTexts() []string {
	return slices.Concat(anyTexts(), []string{"\x90\x48\x89\xd8\xf4", "\x90\x48\x89\xd8\x0f\x0b", "\x48\xb8\x01\x02\x03\x04\x05\x06\x07\x08\x66\x90", "\x8b\x04\x25\x00\x01\x00\x00\x8d\xc0",
		"\xc7\x84\x24\x00\x01\x00\x00\x01", "\x66", "\x66\x66", "\x0f", "\x4f", "\xff\x15\x00", strings.Repeat("\x88\x20", 9), strings.Repeat("\x90", impl.MaxText), strings.Repeat("\x90", impl.MaxText+1)})
}

func decodeOperands() []impl.Operand {
	list := []impl.Operand{{}, {Kind: 4}, {Reg: 1}}
	for _, n := range []int{0, 1, 15, 16, 19, 20, -1, math.MaxInt, math.MinInt} {
		list = append(list, ofReg(n), ofNumber(n), ofMemory(n, -1, 1, n), ofMemory(1, n, 2, 3), ofMemory(1, 2, n, 3))
	}
	return list
}

// toldAll is an answer of DecodeAll as a text that is short even of many instructions.
func toldAll(list []impl.Instr, where, code int) string {
	sum := fnv.New64a()
	for _, x := range list {
		fmt.Fprint(sum, x)
	}
	return fmt.Sprint(len(list), sum.Sum64(), where, code)
}

// textDecodes are the calls of chapter 5 that take one of these texts.
func textDecodes(texts []string) []call {
	var list []call
	add := func(make func() string, name ...any) { list = append(list, call{fmt.Sprint(name...), make}) }
	for i, t := range texts {
		add(func() string { return toldAll(impl.DecodeAll(t)) }, "DecodeAll ", i)
		for _, at := range decodeNumbers {
			add(func() string { return fmt.Sprint(impl.Decode(t, at)) }, "Decode ", i, at)
			add(func() string { return fmt.Sprint(impl.LengthAt(t, at)) }, "LengthAt ", i, at)
		}
	}
	return list
}

// decodeCalls are all the calls of chapter 5.
func decodeCalls(texts []string) []call {
	list := textDecodes(texts)
	for i, x := range decodeOperands() {
		for _, size := range decodeNumbers {
			list = append(list, call{fmt.Sprint("OperandOK ", i, size), func() string { return fmt.Sprint(impl.OperandOK(x, size)) }})
		}
	}
	return list
}

// TestAlikeInstructionsHaveAlikeAnswers holds for P1.
func TestAlikeInstructionsHaveAlikeAnswers(t *testing.T) {
	checkAlikeTexts(t, decodeTexts, textDecodes)
}

// TestAllElseIsZeroBesideCodesOfDecoding holds for rule 5; just DecodeAll tells where it ended, of the codes of Decode there.
func TestAllElseIsZeroBesideCodesOfDecoding(t *testing.T) {
	codes := []int{impl.OK, impl.ErrLong, impl.ErrRange, impl.ErrEnd, impl.ErrPrefix, impl.ErrOpcode, impl.ErrOperand}
	for i, text := range decodeTexts() {
		for _, at := range decodeNumbers {
			x, code := impl.Decode(text, at)
			n, c := impl.LengthAt(text, at)
			if code != impl.OK && x != (impl.Instr{}) || !slices.Contains(codes, code) || n != x.Len || c != code {
				t.Error("Decode", i, at, x, code, n, c)
			}
		}
		list, where, code := impl.DecodeAll(text)
		if code == impl.OK {
			if where != 0 {
				t.Error("DecodeAll", i, len(list), where, code)
			}
			continue
		}
		if _, c := impl.Decode(text, where); len(list) != 0 || c != code {
			t.Error("DecodeAll", i, len(list), where, code, c)
		}
	}
}

// TestInstructionsShareNothing holds for rule 3: what is written into an answer shows in no other one.
func TestInstructionsShareNothing(t *testing.T) {
	const text = "\x90\x48\x89\xd8\xf4"
	first, _, _ := impl.DecodeAll(text)
	want := slices.Clone(first)
	second, _, _ := impl.DecodeAll(text)
	for i := range first {
		first[i] = impl.Instr{Op: -1}
	}
	first = append(first[:1], impl.Instr{Op: -2})
	third, _, _ := impl.DecodeAll(text)
	if !slices.Equal(second, want) || !slices.Equal(third, want) {
		t.Error("answers share memory", first, second, third)
	}
}
