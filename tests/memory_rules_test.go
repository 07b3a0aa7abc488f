package tests

import (
	"fmt"
	"hash/fnv"
	"math"
	"slices"
	"strings"
	"testing"

	"loop.example/g00664/impl"
)

// memoryNumbers are addresses, bases, sizes, Perms and lengths, right ones and others.
var memoryNumbers = []int{0, 1, 2, 3, 4, 7, 8, 9, 15, 255, 256, 257, 511, 512, 1024, 2047, 2048, 8192, 8193, 65280, 65535, 65536, -1, -256, math.MaxInt - 7, math.MaxInt, math.MinInt}

// memoryTexts are texts for PutBytes.
func memoryTexts() []string {
	return []string{"", "a", "\x00\xff", strings.Repeat("b", 257), strings.Repeat("c", 8192), strings.Repeat("d", 8193), strings.Repeat("e", impl.MaxText), strings.Repeat("f", impl.MaxText+1)}
}

// someMemories are right memories and others.
func someMemories() []impl.Memory {
	return []impl.Memory{{}, memory(page(256, 3), page(512, 5)), patchwork(), pagesFrom(0, 32, 7), pagesFrom(0, 33, 7), memory(page(512, 3), page(256, 3)), memory(withData("x"))}
}

// told is an answer as a text that is short even of a large memory.
func told(m impl.Memory, code int) string {
	sum := fnv.New64a()
	for _, p := range m.Pages {
		fmt.Fprint(sum, p.Base, " ", p.Perm, " ", len(p.Data), " ")
		sum.Write([]byte(p.Data))
	}
	return fmt.Sprint(len(m.Pages), sum.Sum64(), code)
}

// memoryCalls are the calls of chapter 3 with each of these memories.
func memoryCalls(memories []impl.Memory, texts []string) []call {
	var list []call
	add := func(make func() string, name ...any) { list = append(list, call{fmt.Sprint(name...), make}) }
	for i, m := range memories {
		add(func() string { return fmt.Sprint(impl.MemoryOK(m)) }, "MemoryOK ", i)
		for k, other := range memories {
			add(func() string { return fmt.Sprint(impl.SameMemory(m, other)) }, "SameMemory ", i, k)
		}
		for _, a := range memoryNumbers {
			add(func() string { return fmt.Sprint(impl.PermAt(m, a)) }, "PermAt ", i, a)
			add(func() string { return fmt.Sprint(impl.FetchAt(m, a)) }, "FetchAt ", i, a)
			for _, b := range memoryNumbers {
				add(func() string { return told(impl.AddPage(m, a, b)) }, "AddPage ", i, a, b)
				add(func() string { return told(impl.SetPerm(m, a, b)) }, "SetPerm ", i, a, b)
				add(func() string { return fmt.Sprint(impl.LoadAt(m, a, b)) }, "LoadAt ", i, a, b)
				add(func() string { return told(impl.StoreAt(m, a, b, a-b)) }, "StoreAt ", i, a, b)
				add(func() string { return fmt.Sprint(impl.GetBytes(m, a, b)) }, "GetBytes ", i, a, b)
			}
			for k, t := range texts {
				add(func() string { return told(impl.PutBytes(m, a, t)) }, "PutBytes ", i, a, k)
			}
		}
	}
	return list
}

// elsewhere is a memory that is alike, with its pages within a longer list and their bytes within longer texts.
func elsewhere(m impl.Memory) impl.Memory {
	pages := []impl.Page{page(1024, 1)}
	for _, p := range m.Pages {
		p.Data = ("<<<" + p.Data + ">>>")[3 : 3+len(p.Data)]
		pages = append(pages, p)
	}
	pages = append(pages, page(2048, 2))
	return impl.Memory{Pages: pages[1 : len(pages)-1]}
}

// TestAlikeMemoriesHaveAlikeAnswers holds for P1: it hands in memories that are alike but lie elsewhere; an empty list is as nil.
func TestAlikeMemoriesHaveAlikeAnswers(t *testing.T) {
	memories, texts := someMemories(), memoryTexts()
	others := make([]impl.Memory, len(memories))
	for i, m := range memories {
		others[i] = elsewhere(m)
	}
	checkAlike(t, memoryCalls(memories, texts), memoryCalls(others, texts))
}

// TestMemoriesStay holds for P1: no call changes a memory that it is given, nor what stands behind the end of its list.
func TestMemoriesStay(t *testing.T) {
	texts := memoryTexts()
	for i, m := range someMemories() {
		behind := make([]impl.Page, 8)
		for k := range behind {
			behind[k] = page(256*k, k)
		}
		all := append(slices.Clone(m.Pages), behind...)
		want := slices.Clone(all)
		given := impl.Memory{Pages: all[:len(m.Pages)]}
		answersOf(memoryCalls([]impl.Memory{given}, texts))
		if !slices.Equal(all, want) {
			t.Errorf("memory %d is changed", i)
		}
	}
}

// A memoryAnswer is what a call that answers a memory said.
type memoryAnswer struct {
	memory impl.Memory
	code   int
}

func answered(m impl.Memory, code int) memoryAnswer { return memoryAnswer{m, code} }

// memoryAnswers are answers of each call that answers a memory, of OK and of each code with which it is as it was.
func memoryAnswers(t *testing.T, m impl.Memory) []impl.Memory {
	added := impl.OK
	if len(m.Pages) == impl.MaxPages {
		added = impl.ErrFull
	}
	var list []impl.Memory
	for i, v := range []struct {
		got  memoryAnswer
		want int
	}{
		{answered(impl.AddPage(m, 40960, 3)), added},
		{answered(impl.AddPage(m, 0, 3)), impl.ErrPage},
		{answered(impl.SetPerm(m, 0, 3)), impl.OK},
		{answered(impl.SetPerm(m, 40960, 3)), impl.ErrPage},
		{answered(impl.StoreAt(m, 8, 8, 1)), impl.OK},
		{answered(impl.StoreAt(m, 40960, 8, 1)), impl.ErrPage},
		{answered(impl.StoreAt(m, 768, 8, 1)), impl.ErrPerm},
		{answered(impl.PutBytes(m, 8, "abc")), impl.OK},
		{answered(impl.PutBytes(m, 8, "")), impl.OK},
		{answered(impl.PutBytes(m, 40960, "abc")), impl.ErrPage},
		{answered(impl.PutBytes(m, 0, strings.Repeat("x", 8193))), impl.ErrPage},
	} {
		if v.got.code != v.want || len(v.got.memory.Pages) < len(m.Pages) {
			t.Fatal("an answer with another code", i, v.got.code, v.want)
		}
		list = append(list, v.got.memory)
	}
	return list
}

// spoil writes into all the memory that a list of pages has, behind its end too.
func spoil(pages []impl.Page) {
	all := pages[:cap(pages)]
	for i := range all {
		all[i] = impl.Page{Base: -1, Perm: -1, Data: "spoilt"}
	}
}

// TestAnswersShareNothing holds for P1: what is done to one answer shows neither in the memory that was handed in nor in another answer.
func TestAnswersShareNothing(t *testing.T) {
	full := pagesFrom(0, 32, 3)
	full.Pages[3].Perm = 5
	for _, m := range []impl.Memory{patchwork(), full} {
		all := append(slices.Clone(m.Pages), make([]impl.Page, 4)...)
		want := slices.Clone(all)
		answers := memoryAnswers(t, impl.Memory{Pages: all[:len(m.Pages)]})
		var before [][]impl.Page
		for _, a := range answers {
			before = append(before, slices.Clone(a.Pages))
		}
		for i, a := range answers {
			if !slices.Equal(a.Pages, before[i]) {
				t.Fatal("an answer shares memory with another one", i)
			}
			spoil(a.Pages)
			if !slices.Equal(all, want) {
				t.Fatal("an answer shares memory with the argument", i)
			}
		}
	}
}

// TestMemoryBesideCodes holds for rule 5: beside a code a memory is as it was where chapter 3 says so, and else all is zero.
func TestMemoryBesideCodes(t *testing.T) {
	for i, m := range someMemories() {
		check := func(name string, got impl.Memory, code int, kept ...int) {
			t.Helper()
			if slices.Contains(kept, code) && !alike(got, m) || code != impl.OK && !slices.Contains(kept, code) && len(got.Pages) != 0 {
				t.Error(name, i, code, len(got.Pages))
			}
		}
		for _, a := range memoryNumbers {
			for _, b := range memoryNumbers {
				got, code := impl.AddPage(m, a, b)
				check("AddPage", got, code, impl.ErrPage, impl.ErrFull)
				got, code = impl.SetPerm(m, a, b)
				check("SetPerm", got, code, impl.ErrPage)
				got, code = impl.StoreAt(m, a, b, 1)
				check("StoreAt", got, code, impl.ErrPage, impl.ErrPerm)
				if n, code := impl.LoadAt(m, a, b); code != impl.OK && n != 0 {
					t.Error("LoadAt", i, a, b, n, code)
				}
				if s, code := impl.GetBytes(m, a, b); code != impl.OK && s != "" {
					t.Error("GetBytes", i, a, b, s, code)
				}
			}
			for _, s := range memoryTexts() {
				got, code := impl.PutBytes(m, a, s)
				check("PutBytes", got, code, impl.ErrPage)
			}
			if n, code := impl.PermAt(m, a); code != impl.OK && n != 0 {
				t.Error("PermAt", i, a, n, code)
			}
			if s, code := impl.FetchAt(m, a); code != impl.OK && s != "" {
				t.Error("FetchAt", i, a, s, code)
			}
		}
	}
}
