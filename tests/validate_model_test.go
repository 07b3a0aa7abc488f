package tests

import (
	"fmt"
	"slices"
	"strings"
	"testing"

	"loop.example/g00664/impl"
)

// A judge is the tests' own validator: it tells each instruction by a word, and its neighbours by theirs.
type judge struct {
	effects
	text  string
	at    int
	lines []judgedLine
	codes map[int]int // how often each code was told
}

// A judgedLine is what stands at an offset; its word is "mask REG NUMBER", "base REG", "through REG", "through memory", or empty.
type judgedLine struct {
	offset, end int
	x           impl.Instr
	word        string
	code        int
}

func newJudge(t *testing.T) *judge { return &judge{effects: newEffects(t), codes: map[int]int{}} }

func opWord(x impl.Instr) string { return chapterOps[x.Op-1] }

func wordOf(x impl.Instr) string {
	op, kinds := opWord(x), kindsOf(x)
	switch {
	case op == "and" && x.Size == 4 && kinds == "ri":
		return fmt.Sprintf("mask %d %d", x.Dst.Reg, x.Src.Imm)
	case op == "add" && x.Size == 8 && kinds == "rr" && x.Src.Reg == 15:
		return fmt.Sprintf("base %d", x.Dst.Reg)
	case (op == "call" || op == "jmp") && kinds == "-r":
		return fmt.Sprintf("through %d", x.Src.Reg)
	case (op == "call" || op == "jmp") && kinds == "-m":
		return "through memory"
	}
	return ""
}

// read lays down the lines of a text, up to the first that is no instruction.
func (j *judge) read(text string, at int) {
	j.text, j.at, j.lines = text, at, nil
	for offset := 0; offset < len(text); {
		x, code := impl.Decode(text, offset)
		line := judgedLine{offset: offset, end: offset + x.Len, code: code}
		if code == impl.OK && offset/32 != (line.end-1)/32 {
			line.code = impl.ErrBundle
		}
		if line.code == impl.OK {
			line.x, line.word = x, wordOf(x)
		}
		j.lines = append(j.lines, line)
		if line.code != impl.OK {
			return
		}
		offset = line.end
	}
}

// near is the word of a neighbour.
func (j *judge) near(i, by int) string {
	if !within(i+by, 0, len(j.lines)-1) || j.lines[i].offset/32 != j.lines[i+by].offset/32 {
		return ""
	}
	return j.lines[i+by].word
}

func isOneOf(x impl.Operand, regs ...int) bool {
	return x.Kind == impl.KindReg && slices.Contains(regs, x.Reg)
}

// stackRule is whether an instruction may write what it writes of registers 4 and 5.
func (j *judge) stackRule(i int) bool {
	x := j.lines[i].x
	both := slices.DeleteFunc(j.touch(x).Regs, func(reg int) bool { return reg != 4 && reg != 5 })
	switch op := opWord(x); {
	case len(both) == 0, op == "push", op == "call", op == "pop" && !isOneOf(x.Dst, 4, 5):
		return true
	case op == "mov" && x.Size == 8 && isOneOf(x.Dst, 4, 5) && isOneOf(x.Src, 4, 5) && x.Dst != x.Src:
		return true
	case len(both) == 2:
		return false
	}
	mask, base := fmt.Sprintf("mask %d 4095", both[0]), fmt.Sprintf("base %d", both[0])
	switch j.lines[i].word {
	case base:
		return j.near(i, -1) == mask
	case mask:
		return j.near(i, 1) == base
	}
	return x.Size == 4 && isOneOf(x.Dst, both[0]) && j.near(i, 1) == mask && j.near(i, 2) == base
}

// placeOf is the operand that is memory, but of lea.
func placeOf(x impl.Instr) (impl.Operand, bool) {
	at := strings.Index(kindsOf(x), "m")
	if at < 0 || opWord(x) == "lea" {
		return impl.Operand{}, false
	}
	return [2]impl.Operand{x.Dst, x.Src}[at], true
}

func (j *judge) placeRule(i int) int {
	place, is := placeOf(j.lines[i].x)
	if !is {
		return impl.OK
	}
	if place.Base == 16 {
		if !within(j.at+j.lines[i].end+place.Disp, 16384-2048, 16384+4096+2047) {
			return impl.ErrRip
		}
		return impl.OK
	}
	if !slices.Contains([]int{4, 5, 15}, place.Base) {
		return impl.ErrMask
	}
	if place.Index != -1 && (place.Base != 15 || place.Scale != 1 || slices.Contains([]int{4, 5, 15}, place.Index) || j.near(i, -1) != fmt.Sprintf("mask %d 4095", place.Index)) {
		return impl.ErrMask
	}
	if !within(place.Disp, -2048, 2047) {
		return impl.ErrDisp
	}
	return impl.OK
}

func (j *judge) throughRule(i int) bool {
	word := j.lines[i].word
	reg, is := strings.CutPrefix(word, "through ")
	if !is {
		return true
	}
	return !slices.Contains([]string{"memory", "4", "5", "15"}, reg) && j.near(i, -1) == "base "+reg && j.near(i, -2) == "mask "+reg+" 4064"
}

// ruleOf is the first rule that a line breaks.
func (j *judge) ruleOf(i int) int {
	line := j.lines[i]
	if line.code != impl.OK {
		return line.code
	}
	op := opWord(line.x)
	if slices.Contains(strings.Fields("ret stos movs syscall int"), op) {
		return impl.ErrUnsafe
	}
	if slices.Contains(j.touch(line.x).Regs, 15) {
		return impl.ErrBase
	}
	if !j.stackRule(i) {
		return impl.ErrStack
	}
	if code := j.placeRule(i); code != impl.OK {
		return code
	}
	if !j.throughRule(i) {
		return impl.ErrIndirect
	}
	if op == "call" && line.end%32 != 0 {
		return impl.ErrCall
	}
	return impl.OK
}

func (j *judge) isInner(i int) bool {
	line := j.lines[i]
	place, _ := placeOf(line.x)
	reg, based := strings.CutPrefix(line.word, "base ")
	return place.Kind == impl.KindMem && place.Index != -1 || strings.HasPrefix(line.word, "through ") || line.word == "base 4" || line.word == "base 5" ||
		based && j.near(i, -1) == "mask "+reg+" 4064" && j.near(i, 1) == "through "+reg
}

// verdict is what Validate is to answer of a text that has a right length, at a right place.
func (j *judge) verdict(text string, at int) (impl.Report, int) {
	j.read(text, at)
	var r impl.Report
	var goers []int
	for i, line := range j.lines {
		if code := j.ruleOf(i); code != impl.OK {
			return impl.Report{At: line.offset}, code
		}
		r.Starts = append(r.Starts, line.offset)
		if j.isInner(i) {
			r.Inner = append(r.Inner, line.offset)
		}
		if slices.Contains(strings.Fields("call jmp jcc"), opWord(line.x)) && line.x.Src.Kind == impl.KindImm {
			r.Goals = append(r.Goals, line.end+line.x.Src.Imm)
			goers = append(goers, line.offset)
		}
	}
	last := j.lines[len(j.lines)-1]
	if op := opWord(last.x); op != "jmp" && op != "hlt" {
		return impl.Report{At: last.offset}, impl.ErrText
	}
	may := mayGoBy(r, len(text))
	for i, goal := range r.Goals {
		if tramp := at + goal - 16640; !may[goal] && !(within(tramp, 0, 255) && tramp%32 == 0) {
			return impl.Report{At: goers[i]}, impl.ErrTarget
		}
	}
	return r, impl.OK
}

// check holds Validate against the tests' own, and answers the code.
func (j *judge) check(text string, at int) int {
	j.t.Helper()
	want, code := j.verdict(text, at)
	if got, c := impl.Validate(text, at); !sameReport(got, want) || c != code {
		j.t.Fatalf("Validate(% x, %d) = %+v, %d, want %+v, %d", text, at, got, c, want, code)
	}
	j.codes[code]++
	return code
}

// checkCodes looks that a sweep has had each of these codes.
func (j *judge) checkCodes(least int, codes ...int) {
	j.t.Helper()
	for _, code := range codes {
		if j.codes[code] < least {
			j.t.Errorf("the sweep has the code %q %d times", impl.CodeWord(code), j.codes[code])
		}
	}
}
