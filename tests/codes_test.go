package tests

import (
	"math"
	"strings"
	"testing"

	"loop.example/g00664/impl"
)

// chapterCodes is the table of codes of chapter 1.
var chapterCodes = []struct {
	number, constant int
	word             string
}{
	{0, impl.OK, "ok"},
	{1, impl.ErrBad, "bad"},
	{2, impl.ErrLong, "long"},
	{3, impl.ErrForm, "form"},
	{4, impl.ErrRange, "range"},
	{5, impl.ErrNone, "none"},
	{6, impl.ErrMany, "many"},
	{7, impl.ErrFull, "full"},
	{8, impl.ErrSize, "size"},
	{9, impl.ErrEnd, "end"},
	{10, impl.ErrPrefix, "prefix"},
	{11, impl.ErrOpcode, "opcode"},
	{12, impl.ErrOperand, "operand"},
	{13, impl.ErrPage, "page"},
	{14, impl.ErrPerm, "perm"},
	{15, impl.ErrFetch, "fetch"},
	{16, impl.ErrDivide, "divide"},
	{17, impl.ErrHalt, "halt"},
	{18, impl.ErrTrap, "trap"},
	{19, impl.ErrBundle, "bundle"},
	{20, impl.ErrUnsafe, "unsafe"},
	{21, impl.ErrBase, "base"},
	{22, impl.ErrStack, "stack"},
	{23, impl.ErrMask, "mask"},
	{24, impl.ErrDisp, "disp"},
	{25, impl.ErrIndirect, "indirect"},
	{26, impl.ErrTarget, "target"},
	{27, impl.ErrCall, "call"},
	{28, impl.ErrText, "text"},
	{29, impl.ErrRip, "rip"},
	{30, impl.ErrMagic, "magic"},
	{31, impl.ErrSegment, "segment"},
	{32, impl.ErrEntry, "entry"},
	{33, impl.ErrFuel, "fuel"},
	{34, impl.ErrService, "service"},
	{35, impl.ErrDone, "done"},
}

func TestLimits(t *testing.T) {
	if impl.MaxText != 65536 || impl.MaxList != 4096 || impl.MaxName != 20 {
		t.Error(impl.MaxText, impl.MaxList, impl.MaxName)
	}
}

func TestCodesAndWords(t *testing.T) {
	if len(chapterCodes) != 36 {
		t.Fatal(len(chapterCodes))
	}
	for _, c := range chapterCodes {
		if c.constant != c.number {
			t.Errorf("the constant of %q is %d, want %d", c.word, c.constant, c.number)
		}
		if got := impl.CodeWord(c.number); got != c.word {
			t.Errorf("CodeWord(%d) = %q, want %q", c.number, got, c.word)
		}
		if got := impl.CodeOf(c.word); got != c.number {
			t.Errorf("CodeOf(%q) = %d, want %d", c.word, got, c.number)
		}
	}
}

func TestNumbersThatAreNoCode(t *testing.T) {
	for _, n := range []int{-1, 36, 37, 256, -36, 1 << 32, 1<<32 + 1, math.MinInt, math.MaxInt} {
		if got := impl.CodeWord(n); got != "" {
			t.Errorf("CodeWord(%d) = %q, want the empty text", n, got)
		}
	}
}

func TestWordsThatAreNoCodes(t *testing.T) {
	words := []string{"", " ", "x", "OK", "Ok", "ok ", " ok", "o", "okk", "ok\x00", "err", "ErrBad", "0", "35", "done\n", "\xff",
		strings.Repeat("k", impl.MaxText), strings.Repeat("k", impl.MaxText+1), "ok" + strings.Repeat(" ", 2*impl.MaxText)}
	for _, w := range words {
		if got := impl.CodeOf(w); got != -1 {
			t.Errorf("CodeOf(%.20q) of %d bytes = %d, want -1", w, len(w), got)
		}
	}
}

func TestNames(t *testing.T) {
	names := []string{"a", "z", "A", "Z", "_", "__", "a9", "_0", "Az_09", "zZ9", strings.Repeat("a", 20), "_" + strings.Repeat("9", 19)}
	for _, n := range names {
		if !impl.NameOK(n) {
			t.Errorf("NameOK(%q) is false", n)
		}
	}
	others := []string{"", "9", "9a", "0_", "-a", "a-", "a b", " a", "a ", "a\n", "a\x00", "a.b", "\u00e9", "a\u00e9", "\xff",
		strings.Repeat("a", 21), strings.Repeat("a", impl.MaxText), strings.Repeat("a", impl.MaxText+1)}
	for _, n := range others {
		if impl.NameOK(n) {
			t.Errorf("NameOK(%.30q) of %d bytes is true", n, len(n))
		}
	}
}

func TestBytesOfNames(t *testing.T) {
	const letters = "abcdefghijklmnopqrstuvwxyzABCDEFGHIJKLMNOPQRSTUVWXYZ_"
	for b := range 256 {
		one := string([]byte{byte(b)})
		first := strings.Contains(letters, one)
		later := strings.Contains(letters+"0123456789", one)
		if impl.NameOK(one) != first || impl.NameOK(one+"a") != first {
			t.Errorf("byte %d at the beginning of a name: want %v", b, first)
		}
		if impl.NameOK("a"+one) != later || impl.NameOK("a"+one+"a") != later || impl.NameOK(strings.Repeat("a", 19)+one) != later {
			t.Errorf("byte %d within a name: want %v", b, later)
		}
	}
}
