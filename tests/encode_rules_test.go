package tests

import (
	"fmt"
	"hash/fnv"
	"math"
	"slices"
	"strings"
	"testing"

	"loop.example/g00664/impl"
)

// someInstrs are instructions of which some can be encoded, with any integers in their fields.
func someInstrs() []impl.Instr {
	list := []impl.Instr{{}, {Op: impl.OpNop}, longest, pair(impl.OpMov, 8, ofReg(9), ofNumber(math.MaxInt)), pair(impl.OpMov, 1, ofReg(16), ofReg(4)), {Op: impl.OpJcc, Cond: 15, Src: ofNumber(-6)}, extend(impl.OpMovsx, 8, 4, ofReg(3), ofMemory(impl.RegRip, -1, 1, 9))}
	for _, fairOne := range list[1:] {
		for _, field := range instrFields() {
			for _, n := range []int{0, 1, -1, 15, math.MaxInt, math.MinInt} {
				x := fairOne
				*field(&x) = n
				list = append(list, x)
			}
		}
	}
	return list
}

// someLists are lists of instructions that can be encoded, and others.
func someLists() [][]impl.Instr {
	nop, wrong := impl.Instr{Op: impl.OpNop}, impl.Instr{Op: impl.OpNop, Cond: 1}
	return [][]impl.Instr{nil, {}, {nop}, {wrong}, {nop, longest, nop}, {wrong, nop, nop}, {nop, wrong, nop}, {nop, nop, wrong},
		slices.Repeat([]impl.Instr{longest}, impl.MaxList), slices.Repeat([]impl.Instr{nop}, impl.MaxList+1), make([]impl.Instr, impl.MaxList), make([]impl.Instr, impl.MaxList+1)}
}

// toldBytes is an answer of EncodeAll as a text that is short even of many bytes.
func toldBytes(text string, code int) string {
	sum := fnv.New64a()
	sum.Write([]byte(text))
	return fmt.Sprint(len(text), sum.Sum64(), code)
}

// listCalls are the calls of chapter 6 that take one of these lists.
func listCalls(lists [][]impl.Instr) []call {
	var list []call
	for i, l := range lists {
		list = append(list, call{fmt.Sprint("EncodeAll ", i), func() string { return toldBytes(impl.EncodeAll(l)) }})
	}
	return list
}

// canonicalCalls are the calls of chapter 6 that take one of these texts.
func canonicalCalls(texts []string) []call {
	var list []call
	for i, t := range texts {
		for _, at := range decodeNumbers {
			list = append(list, call{fmt.Sprint("IsCanonical ", i, at), func() string { return fmt.Sprint(impl.IsCanonical(t, at)) }})
		}
	}
	return list
}

// encodeCalls are all the calls of chapter 6.
func encodeCalls(texts []string) []call {
	list := slices.Concat(listCalls(someLists()), canonicalCalls(texts))
	for i, x := range someInstrs() {
		list = append(list, call{fmt.Sprint("InstrOK ", i), func() string { return fmt.Sprint(impl.InstrOK(x)) }}, call{fmt.Sprint("Encode ", i), func() string { return fmt.Sprint(impl.Encode(x)) }})
	}
	return list
}

// withinLongerLists are lists that are alike but lie within longer ones, whose ends are told apart.
func withinLongerLists(lists [][]impl.Instr) (copies, around [][]impl.Instr) {
	for _, l := range lists {
		longer := slices.Concat([]impl.Instr{{Op: -5}}, l, []impl.Instr{{Op: -6}, {Op: -7}})
		around = append(around, longer)
		copies = append(copies, longer[1:1+len(l)])
	}
	return copies, around
}

// TestAlikeListsHaveAlikeBytes holds for P1: it hands in lists that are alike but lie within longer ones, and looks that these stay.
func TestAlikeListsHaveAlikeBytes(t *testing.T) {
	lists := someLists()
	copies, around := withinLongerLists(lists)
	checkAlike(t, listCalls(lists), listCalls(copies))
	for i, want := range someLists() {
		longer := around[i]
		if !slices.Equal(lists[i], want) || !slices.Equal(longer[1:len(longer)-2], want) || longer[0].Op != -5 || longer[len(longer)-2].Op != -6 || longer[len(longer)-1].Op != -7 {
			t.Errorf("list %d is changed", i)
		}
	}
	checkAlikeTexts(t, decodeTexts, canonicalCalls)
}

// TestAllElseIsZeroBesideCodesOfEncoding holds for rule 5, and looks that there are no codes but those that chapter 6 names.
func TestAllElseIsZeroBesideCodesOfEncoding(t *testing.T) {
	for _, x := range someInstrs() {
		text, code := impl.Encode(x)
		if code != impl.OK && code != impl.ErrBad || (text == "") != (code != impl.OK) || impl.InstrOK(x) != (code == impl.OK) {
			t.Errorf("Encode(%+v) = % x, %d", x, text, code)
		}
	}
	for i, l := range someLists() {
		text, code := impl.EncodeAll(l)
		if !slices.Contains([]int{impl.OK, impl.ErrBad, impl.ErrLong}, code) || code != impl.OK && text != "" || (code == impl.ErrLong) != (len(l) > impl.MaxList) {
			t.Errorf("EncodeAll of list %d = %d bytes, %d", i, len(text), code)
		}
	}
	for i, text := range decodeTexts() {
		for _, at := range decodeNumbers {
			_, want := impl.Decode(text, at)
			if yes, code := impl.IsCanonical(text, at); code != want || yes && code != impl.OK {
				t.Error("IsCanonical", i, at, yes, code)
			}
		}
	}
}

// TestEncodingKeepsNothing holds for P1: encoding an instruction keeps nothing that shows in the next one.
func TestEncodingKeepsNothing(t *testing.T) {
	first, _ := impl.Encode(longest)
	kept := strings.Clone(first)
	for range 3 {
		impl.Encode(pair(impl.OpXor, 8, ofReg(1), ofReg(2)))
		impl.EncodeAll([]impl.Instr{longest, {Op: impl.OpRet}})
	}
	if again, code := impl.Encode(longest); first != kept || again != kept || code != impl.OK {
		t.Errorf("% x, then % x, was % x", first, again, kept)
	}
}
