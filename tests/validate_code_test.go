package tests

import (
	"fmt"
	"slices"
	"strings"
	"testing"

	"loop.example/g00664/impl"
)

// codeAt is where code told by hand stands: one bundle above the lowest place, so that it may stand there as well behind another bundle.
const codeAt = impl.SandBase + impl.TextAt + impl.Bundle

const (
	nop = "\x90"
	hlt = "\xf4"
)

func nops(n int) string { return strings.Repeat(nop, n) }

func encoded(x impl.Instr) string {
	text, code := impl.Encode(x)
	if code != impl.OK {
		panic(fmt.Sprintf("the tests' own instruction cannot be encoded: %+v", x))
	}
	return text
}

// masking is an and of Size 4 of a register and a number: of the masks six bytes, from register 8 on seven.
func masking(reg, n int) string { return encoded(pair(impl.OpAnd, 4, ofReg(reg), ofNumber(n))) }

// basing adds register 15 to a register: three bytes.
func basing(reg int) string { return encoded(pair(impl.OpAdd, 8, ofReg(reg), ofReg(15))) }

// through goes to where a register or memory tells: of registers two bytes, from register 8 on three.
func through(op int, x impl.Operand) string { return encoded(source(op, 8, x)) }

// going goes from an offset to another: five bytes, of jcc six.
func going(op, from, goal int) string {
	if op == impl.OpJcc {
		return encoded(source(op, 0, ofNumber(goal-from-6)))
	}
	return encoded(source(op, 8, ofNumber(goal-from-5)))
}

// reading is a mov of Size 8 from memory into register 3.
func reading(place impl.Operand) string { return encoded(pair(impl.OpMov, 8, ofReg(3), place)) }

func basedOn(base, disp int) impl.Operand { return ofMemory(base, -1, 1, disp) }

func indexedBy(index, disp int) impl.Operand { return ofMemory(15, index, 1, disp) }

// filled has as many hlts behind a text as fill its last bundle.
func filled(text string) string { return text + strings.Repeat(hlt, -len(text)&31) }

// lastly has as many nops ahead of a text as make it end its bundle.
func lastly(text string) string { return nops(-len(text)&31) + text }

// usersOf are instructions of many kinds that read or write a place in memory, and write neither register 4 nor 5 but for push and pop.
func usersOf(place impl.Operand) []impl.Instr {
	list := []impl.Instr{extend(impl.OpMovzx, 4, 1, ofReg(1), place), extend(impl.OpMovsx, 8, 4, ofReg(9), place), source(impl.OpPush, 8, place), single(impl.OpPop, 8, place),
		withCond("ne", single(impl.OpSetcc, 1, place)), withCond("s", pair(impl.OpCmov, 4, ofReg(2), place)), pair(impl.OpImul, 8, ofReg(6), place), pair(impl.OpMov, 8, place, ofReg(4)), pair(impl.OpMov, 8, place, ofReg(15))}
	for _, size := range sizes {
		list = append(list, pair(impl.OpMov, size, ofReg(3), place), pair(impl.OpMov, size, place, ofReg(0)), pair(impl.OpMov, size, place, ofNumber(7)), pair(impl.OpAdd, size, ofReg(0), place), pair(impl.OpSub, size, place, ofReg(1)),
			pair(impl.OpCmp, size, place, ofNumber(-1)), pair(impl.OpTest, size, place, ofReg(2)), pair(impl.OpXchg, size, place, ofReg(3)), single(impl.OpNeg, size, place), source(impl.OpMul, size, place), source(impl.OpIdiv, size, place),
			pair(impl.OpShl, size, place, ofReg(1)), pair(impl.OpSar, size, place, ofNumber(3)))
	}
	return list
}

func sameReport(a, b impl.Report) bool {
	return slices.Equal(a.Starts, b.Starts) && slices.Equal(a.Inner, b.Inner) && slices.Equal(a.Goals, b.Goals) && a.At == b.At
}

func checkValidate(t *testing.T, text string, at int, want impl.Report, code int) {
	t.Helper()
	if got, c := impl.Validate(text, at); !sameReport(got, want) || c != code {
		t.Errorf("Validate(% x, %d) = %+v, %d, want %+v, %d", text, at, got, c, want, code)
	}
}

// A takenCase is code that is taken, by its instructions, of which nops and hlts may stand together; hlts fill its last bundle.
type takenCase struct {
	pieces       []string
	inner, goals []int
}

func pieces(list ...string) []string { return list }

func (v takenCase) text() string { return filled(strings.Join(v.pieces, "")) }

func isRun(text string) bool { return strings.Count(text, nop)+strings.Count(text, hlt) == len(text) }

// startsOf is where the instructions begin; each byte of nops and hlts is one.
func (v takenCase) startsOf() []int {
	var starts []int
	next := 0
	for _, piece := range v.pieces {
		many := 1
		if isRun(piece) {
			many = len(piece)
		}
		for i := range many {
			starts = append(starts, next+i)
		}
		next += len(piece)
	}
	for ; next%impl.Bundle != 0; next++ {
		starts = append(starts, next)
	}
	return starts
}

// shifted is a list one bundle later.
func shifted(list []int) []int {
	later := slices.Clone(list)
	for i := range later {
		later[i] += impl.Bundle
	}
	return later
}

// checkTaken looks at code where it stands, and likewise behind another bundle.
func checkTaken(t *testing.T, list ...takenCase) {
	t.Helper()
	m := newJudge(t)
	for _, v := range list {
		text := v.text()
		want := impl.Report{Starts: v.startsOf(), Inner: v.inner, Goals: v.goals}
		checkValidate(t, text, codeAt, want, impl.OK)
		checkTiled(t, text, codeAt)
		m.check(text, codeAt)
		want = impl.Report{Starts: append(upTo(impl.Bundle), shifted(want.Starts)...), Inner: shifted(v.inner), Goals: shifted(v.goals)}
		checkValidate(t, strings.Repeat(hlt, impl.Bundle)+text, codeAt-impl.Bundle, want, impl.OK)
	}
}

// A refusedCase is code that is not taken, where it is wrong, and its code; hlts fill its last bundle.
type refusedCase struct {
	text        string
	where, code int
}

func checkUntaken(t *testing.T, list ...refusedCase) {
	t.Helper()
	m := newJudge(t)
	for _, v := range list {
		text := filled(v.text)
		checkValidate(t, text, codeAt, impl.Report{At: v.where}, v.code)
		m.check(text, codeAt)
		checkValidate(t, strings.Repeat(hlt, impl.Bundle)+text, codeAt-impl.Bundle, impl.Report{At: v.where + impl.Bundle}, v.code)
	}
}

// checkTiled holds for P9 of one text: its starts tile it, each bundle begins with a start to which a jump may go, and each goal is such a start, or the beginning of a trampoline.
func checkTiled(t *testing.T, text string, at int) {
	t.Helper()
	r, code := impl.Validate(text, at)
	if code != impl.OK {
		t.Fatalf("Validate(% x, %d) has the code %d", text, at, code)
	}
	next := 0
	for _, start := range r.Starts {
		length, code := impl.LengthAt(text, start)
		if start != next || length < 1 || code != impl.OK {
			t.Fatalf("a start of % x is %d, where the one ahead ends at %d", text, start, next)
		}
		next = start + length
	}
	if next != len(text) || r.At != 0 {
		t.Fatalf("the last start of % x ends at %d of %d; At is %d", text, next, len(text), r.At)
	}
	may := mayGoBy(r, len(text))
	for bundle := 0; bundle < len(text); bundle += 32 {
		if !may[bundle] {
			t.Fatalf("no jump may go to the bundle %d of % x", bundle, text)
		}
	}
	for _, goal := range r.Goals {
		tramp := at + goal - 16640
		if !may[goal] && !(within(tramp, 0, 255) && tramp%32 == 0) {
			t.Fatalf("a goal of % x at %d is %d", text, at, goal)
		}
	}
	for goal := -33; goal < len(text)+33; goal++ {
		if impl.MayGo(r, len(text), goal) != may[goal] {
			t.Fatalf("MayGo(%+v, %d, %d) = %v", r, len(text), goal, !may[goal])
		}
	}
}

// mayGoBy is the starts of a report that are not inner.
func mayGoBy(r impl.Report, size int) map[int]bool {
	may := map[int]bool{}
	for _, start := range r.Starts {
		may[start] = within(start, 0, size-1)
	}
	for _, inner := range r.Inner {
		may[inner] = false
	}
	return may
}
