package tests

import (
	"math"
	"slices"
	"strings"
	"testing"

	"loop.example/g00664/impl"
)

// wrongText is a text whose code is told by its last byte: ahead of it there is just an end.
type wrongText struct {
	digits string
	code   int
}

func checkWrongTexts(t *testing.T, list []wrongText) {
	t.Helper()
	for _, v := range list {
		text := bytesOf(t, v.digits)
		checkDecode(t, text, 0, impl.Instr{}, v.code)
		checkWithin(t, text, impl.Instr{}, v.code)
		checkCuts(t, text)
	}
}

func TestPrefixesThatDoNotGoThere(t *testing.T) {
	for _, digits := range []string{"26", "2e", "36", "3e", "64", "65", "67", "f0", "f2", "f3"} {
		checkWrongTexts(t, []wrongText{
			{digits, impl.ErrPrefix},
			{"66 " + digits, impl.ErrPrefix},
			// Behind REX there is the operation, whatever the byte is.
			{"48 " + digits, impl.ErrOpcode},
			{"66 4f " + digits, impl.ErrOpcode},
			{"0f " + digits, impl.ErrOpcode},
		})
	}
	checkWrongTexts(t, []wrongText{
		{"66 66", impl.ErrPrefix},
		{"40 66", impl.ErrOpcode},
		{"66 48 66", impl.ErrOpcode},
		{"0f 66", impl.ErrOpcode},
		{"48 48", impl.ErrOpcode},
		{"40 4f", impl.ErrOpcode},
		{"66 40 40", impl.ErrOpcode},
	})
}

// TestTwoPrefixes tells two prefixes, of which there may be one of each kind, from bytes that look alike behind them.
func TestTwoPrefixes(t *testing.T) {
	for rex := 64; rex <= 79; rex++ {
		size := 2
		if rex >= 72 {
			size = 8
		}
		text := "\x66" + string([]byte{byte(rex)}) + "\x98"
		checkDecode(t, text, 0, impl.Instr{Op: impl.OpCwide, Size: size, Len: 3}, impl.OK)
		checkDecode(t, text[1:]+"\x66", 0, impl.Instr{Op: impl.OpCwide, Size: min(2*size, 8), Len: 2}, impl.OK)
		checkDecode(t, "\x66"+text, 0, impl.Instr{}, impl.ErrPrefix)
	}
	for _, b := range []string{"\x3f", "\x50"} {
		if x, code := impl.Decode("\x66"+b+"\x98", 0); x.Op == impl.OpCwide || code == impl.OK {
			t.Errorf("% x is taken as REX: %+v, %d", b, x, code)
		}
	}
	// Behind a byte 15 they are operations.
	checkDecode(t, "\x0f\x48\xc1", 0, impl.Instr{Op: impl.OpCmov, Size: 4, Cond: 8, Dst: ofReg(0), Src: ofReg(1), Len: 3}, impl.OK)
}

// TestNarrowPrefix asks for a byte 102 ahead of operations of size 8 or 0 and of bytes; its code stands ahead of the end of what is behind ModRM.
func TestNarrowPrefix(t *testing.T) {
	for _, digits := range []string{
		"50", "57", "58", "5f", "68", "6a", "8f 00", "8f c0", "8f 05", "ff 10", "ff d0", "ff 14", "ff 20", "ff e0", "ff 65", "ff 30", "ff f0", "ff b0", "e8", "e9", "eb",
		"70", "7f", "0f 80", "0f 8f", "c3", "90", "f4", "0f 05", "cd",
		"00 00", "88 c0", "8a 05", "3c", "a8", "b0", "b7", "80 c0", "80 04", "84 c0", "86 c0", "c0 c0", "c6 c0", "d0 c0", "d2 c0", "f6 c0", "f6 e0", "fe c0", "0f 90 c0", "0f 9f 05", "a4", "aa",
	} {
		checkWrongTexts(t, []wrongText{{"66 " + digits, impl.ErrPrefix}, {"66 41 " + digits, impl.ErrPrefix}, {"66 4f " + digits, impl.ErrPrefix}})
	}
}

func TestFromThatDoesNotFit(t *testing.T) {
	checkWrongTexts(t, []wrongText{
		{"63 c0", impl.ErrPrefix},
		{"63 05", impl.ErrPrefix},
		{"66 63 c0", impl.ErrPrefix},
		{"47 63 04", impl.ErrPrefix},
		{"66 47 63 c0", impl.ErrPrefix},
		{"66 0f b7 c0", impl.ErrPrefix},
		{"66 47 0f b7 05", impl.ErrPrefix},
		{"66 0f bf c0", impl.ErrPrefix},
		{"66 40 0f bf 04", impl.ErrPrefix},
	})
	for _, v := range []struct {
		digits string
		size   int
	}{{"48 63 c0", 8}, {"66 48 63 c0", 8}, {"0f b7 c0", 4}, {"48 0f b7 c0", 8}, {"66 48 0f bf c0", 8}, {"66 0f b6 c0", 2}, {"66 0f be c0", 2}, {"0f b6 c0", 4}, {"49 0f be c0", 8}} {
		text := bytesOf(t, v.digits)
		if x, code := impl.Decode(text, 0); x.Size != v.size || x.Len != len(text) || code != impl.OK {
			t.Errorf("Decode of %s = %+v, %d", v.digits, x, code)
		}
	}
}

func TestAddressOfARegister(t *testing.T) {
	for _, ahead := range []string{"", "66 ", "40 ", "48 ", "66 4f "} {
		for _, digits := range []string{"8d c0", "8d c4", "8d c5", "8d ff"} {
			checkWrongTexts(t, []wrongText{{ahead + digits, impl.ErrOperand}})
		}
	}
}

// TestWrongBytesOfOperations asks of bytes that are no operation and of digits that tell none, with and without prefixes.
func TestWrongBytesOfOperations(t *testing.T) {
	shapes := shapesOfBoth(t)
	for b := range 256 {
		if _, there := shapes[true][b]; !there {
			for _, ahead := range []string{"\x0f", "\x66\x0f", "\x48\x0f", "\x66\x4f\x0f"} {
				checkDecode(t, ahead+string([]byte{byte(b)}), 0, impl.Instr{}, impl.ErrOpcode)
			}
		}
		if _, there := shapes[false][b]; !there && b != 15 {
			for _, ahead := range []string{"\x48", "\x66\x4f"} {
				checkDecode(t, ahead+string([]byte{byte(b)}), 0, impl.Instr{}, impl.ErrOpcode)
			}
		}
	}
	checkWrongTexts(t, []wrongText{
		{"06", impl.ErrOpcode}, {"3f", impl.ErrOpcode}, {"60", impl.ErrOpcode}, {"66 06", impl.ErrOpcode}, {"f1", impl.ErrOpcode}, {"0f 0f", impl.ErrOpcode}, {"0f 0b", impl.ErrOpcode},
		{"c0 f0", impl.ErrOpcode}, {"c1 d0", impl.ErrOpcode}, {"d1 d8", impl.ErrOpcode}, {"d3 35", impl.ErrOpcode},
		{"f6 c8", impl.ErrOpcode}, {"f7 0d", impl.ErrOpcode}, {"fe d0", impl.ErrOpcode}, {"fe f8", impl.ErrOpcode},
		{"ff d8", impl.ErrOpcode}, {"ff e8", impl.ErrOpcode}, {"ff 3d", impl.ErrOpcode}, {"8f c8", impl.ErrOpcode}, {"8f 38", impl.ErrOpcode}, {"c6 c8", impl.ErrOpcode}, {"c7 78", impl.ErrOpcode},
	})
}

// TestFirstFaultCounts asks of texts with two faults: the one that stands first is told, in the order of chapter 5.
func TestFirstFaultCounts(t *testing.T) {
	checkWrongTexts(t, []wrongText{
		// No such operation, with a byte 102 that would not go there: step 2 or 3 is ahead of step 4.
		{"66 fe d0", impl.ErrOpcode},
		{"66 f6 c8", impl.ErrOpcode},
		{"66 c0 f0", impl.ErrOpcode},
		{"66 c6 c8", impl.ErrOpcode},
		{"66 8f c8", impl.ErrOpcode},
		{"66 ff f8", impl.ErrOpcode},
		{"66 0f 0b", impl.ErrOpcode},
		// A prefix ahead of what is no operation.
		{"66 f2", impl.ErrPrefix},
		{"f0", impl.ErrPrefix},
		{"66 66", impl.ErrPrefix},
	})
	for _, v := range []struct {
		digits string
		code   int
	}{
		{"f0 06", impl.ErrPrefix}, {"f0 66 66", impl.ErrPrefix}, {"66 66 06", impl.ErrPrefix}, {"66 66 8d c0", impl.ErrPrefix}, {"2e 8d c0", impl.ErrPrefix},
		{"06 66 66", impl.ErrOpcode}, {"48 66 66", impl.ErrOpcode}, {"ff f8 f0", impl.ErrOpcode}, {"66 88 c0 f0", impl.ErrPrefix}, {"66 0f b7 c0 06", impl.ErrPrefix},
		{"8d c0 f0", impl.ErrOperand}, {"66 8d c0 66", impl.ErrOperand},
		// A byte 102 counts behind ModRM alone: a lack of that is first.
		{"66 88", impl.ErrEnd}, {"66 0f b7", impl.ErrEnd}, {"66 fe", impl.ErrEnd}, {"63", impl.ErrEnd}, {"8d", impl.ErrEnd}, {"66 ff", impl.ErrEnd}, {"66 8f", impl.ErrEnd},
		// All of an operand counts behind it.
		{"66 88 04", impl.ErrPrefix}, {"66 88 05 00", impl.ErrPrefix}, {"66 80 04 25", impl.ErrPrefix}, {"63 04", impl.ErrPrefix}, {"66 b0", impl.ErrPrefix}, {"66 68 00", impl.ErrPrefix},
		{"ff 7c", impl.ErrOpcode}, {"f7 0c 25", impl.ErrOpcode},
	} {
		checkDecode(t, bytesOf(t, v.digits), 0, impl.Instr{}, v.code)
	}
}

func TestPlacesInTexts(t *testing.T) {
	text := "\x90\x48\x89\xd8\x0f"
	mov := impl.Instr{Op: impl.OpMov, Size: 8, Dst: ofReg(0), Src: ofReg(3), Len: 3}
	checkDecode(t, text, 0, impl.Instr{Op: impl.OpNop, Len: 1}, impl.OK)
	checkDecode(t, text, 1, mov, impl.OK)
	mov.Size, mov.Len = 4, 2
	checkDecode(t, text, 2, mov, impl.OK)
	checkDecode(t, text, 4, impl.Instr{}, impl.ErrEnd)
	checkDecode(t, text, 5, impl.Instr{}, impl.ErrEnd)
	checkDecode(t, "", 0, impl.Instr{}, impl.ErrEnd)
	for _, at := range []int{-1, 6, 7, -5, 1 << 32, -1 << 32, math.MaxInt, math.MaxInt - 1, math.MinInt, math.MinInt + 1} {
		checkDecode(t, text, at, impl.Instr{}, impl.ErrRange)
		checkDecode(t, "", at, impl.Instr{}, impl.ErrRange)
		checkDecode(t, "\xf0", at, impl.Instr{}, impl.ErrRange)
	}
	checkDecode(t, "", 1, impl.Instr{}, impl.ErrRange)
}

// TestDecodeLongTexts holds for rule 8, at the limit and beyond it.
func TestDecodeLongTexts(t *testing.T) {
	nop := impl.Instr{Op: impl.OpNop, Len: 1}
	long := strings.Repeat("\x90", impl.MaxText)
	for _, at := range []int{0, 1, impl.MaxText - 1} {
		checkDecode(t, long, at, nop, impl.OK)
	}
	checkDecode(t, long, impl.MaxText, impl.Instr{}, impl.ErrEnd)
	checkDecode(t, long, impl.MaxText+1, impl.Instr{}, impl.ErrRange)
	checkDecode(t, long, -1, impl.Instr{}, impl.ErrRange)
	checkDecodeAll(t, long, slices.Repeat([]impl.Instr{nop}, impl.MaxText), 0, impl.OK)
	checkDecodeAll(t, long[1:]+"\x66", nil, impl.MaxText-1, impl.ErrEnd)
	for _, more := range []string{"\x90", "\xf0", "\x66", strings.Repeat("\x90", impl.MaxText)} {
		for _, at := range []int{0, 1, impl.MaxText, impl.MaxText + 1, impl.MaxText + 2, -1, math.MaxInt, math.MinInt} {
			checkDecode(t, long+more, at, impl.Instr{}, impl.ErrLong)
			checkDecode(t, more+long, at, impl.Instr{}, impl.ErrLong)
		}
		checkDecodeAll(t, long+more, nil, 0, impl.ErrLong)
		checkDecodeAll(t, more+long, nil, 0, impl.ErrLong)
	}
}

func checkDecodeAll(t *testing.T, text string, want []impl.Instr, where, code int) {
	t.Helper()
	if list, w, c := impl.DecodeAll(text); !slices.Equal(list, want) || w != where || c != code {
		t.Errorf("DecodeAll(%.40q) has %d instructions, %d, %d, want %d, %d, %d", text, len(list), w, c, len(want), where, code)
	}
}

// someInstructions are texts of instructions of all lengths, and what they are.
func someInstructions(t *testing.T) ([]string, []impl.Instr) {
	var texts []string
	var list []impl.Instr
	for _, v := range []literal{
		{"90", impl.Instr{Op: impl.OpNop}},
		{"48 89 d8", impl.Instr{Op: impl.OpMov, Size: 8, Dst: ofReg(0), Src: ofReg(3)}},
		{"eb fe", impl.Instr{Op: impl.OpJmp, Size: 8, Src: ofNumber(-2)}},
		{"e8 00 00 00 00", impl.Instr{Op: impl.OpCall, Size: 8, Src: ofNumber(0)}},
		{"48 b8 08 07 06 05 04 03 02 01", impl.Instr{Op: impl.OpMov, Size: 8, Dst: ofReg(0), Src: ofNumber(0x0102030405060708)}},
		{"48 c7 84 24 00 01 00 00 01 00 00 00", impl.Instr{Op: impl.OpMov, Size: 8, Dst: ofMemory(4, -1, 1, 256), Src: ofNumber(1)}},
		{"8b 04 25 00 01 00 00", load(-1, -1, 1, 256)},
		{"41 8b 44 88 fc", load(8, 1, 4, -4)},
		{"f4", impl.Instr{Op: impl.OpHlt}},
	} {
		text := bytesOf(t, v.digits)
		v.x.Len = len(text)
		texts, list = append(texts, text), append(list, v.x)
	}
	return texts, list
}

func TestDecodeAll(t *testing.T) {
	texts, list := someInstructions(t)
	checkDecodeAll(t, "", nil, 0, impl.OK)
	for i := range texts {
		for k := i; k <= len(texts); k++ {
			checkDecodeAll(t, strings.Join(texts[i:k], ""), list[i:k], 0, impl.OK)
		}
	}
}

// TestDecodeAllOfWrongTexts puts what is no instruction first, in the middle and last.
func TestDecodeAllOfWrongTexts(t *testing.T) {
	texts, _ := someInstructions(t)
	for _, v := range []wrongText{{"f0", impl.ErrPrefix}, {"66 90", impl.ErrPrefix}, {"63 c0", impl.ErrPrefix}, {"06", impl.ErrOpcode}, {"48 0f 0b", impl.ErrOpcode}, {"ff f8", impl.ErrOpcode}, {"8d c0", impl.ErrOperand}} {
		wrong := bytesOf(t, v.digits)
		for i := range len(texts) + 1 {
			ahead, behind := strings.Join(texts[:i], ""), strings.Join(texts[i:], "")
			checkDecodeAll(t, ahead+wrong+behind, nil, len(ahead), v.code)
			checkDecodeAll(t, ahead+wrong+wrong+behind+"\xf0", nil, len(ahead), v.code)
		}
	}
	for i, text := range texts {
		ahead := strings.Join(texts[:i], "")
		for n := 1; n < len(text); n++ {
			checkDecodeAll(t, ahead+text[:n], nil, len(ahead), impl.ErrEnd)
		}
	}
}
