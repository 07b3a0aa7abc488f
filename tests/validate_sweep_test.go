package tests

import (
	"math/rand"
	"slices"
	"strings"
	"testing"

	"loop.example/g00664/impl"
)

// neighbourWords are pieces, of which some are right side by side alone.
func neighbourWords() []string {
	var list []string
	for _, reg := range []int{1, 4, 5} {
		list = append(list, masking(reg, 4095), masking(reg, 4064), basing(reg))
	}
	return append(list, through(impl.OpJmp, ofReg(1)), through(impl.OpCall, ofReg(1)), through(impl.OpJmp, ofReg(4)), reading(indexedBy(1, 0)), reading(indexedBy(2, 0)), reading(indexedBy(5, 0)), reading(basedOn(5, 0)),
		encoded(pair(impl.OpSub, 4, ofReg(4), ofNumber(8))), encoded(pair(impl.OpMov, 4, ofReg(5), ofReg(1))), encoded(pair(impl.OpXchg, 4, ofReg(4), ofReg(5))), encoded(pair(impl.OpMov, 8, ofReg(4), ofReg(5))), encoded(pair(impl.OpAnd, 8, ofReg(1), ofNumber(4095))), nop, "\xc3")
}

// TestAllNeighbours holds all threes of such pieces against the tests' own validator: within a bundle, at its end, and with the end between them.
func TestAllNeighbours(t *testing.T) {
	j, words := newJudge(t), neighbourWords()
	// A mov of ten bytes, so that there are few instructions beside the three.
	ten := encoded(pair(impl.OpMov, 8, ofReg(0), ofNumber(1<<40)))
	for i, a := range words {
		for k, b := range words {
			for l, c := range words {
				three := a + b + c
				j.check(filled(three), codeAt)
				end := [3]int{len(three), len(a), len(a + b)}[(i+k+l)%3]
				ahead := (3*32 - end) % 32
				text := strings.Repeat(ten, ahead/10) + nops(ahead%10) + three
				j.check(filled(text+hlt), codeAt)
			}
		}
	}
	j.checkCodes(50, impl.OK, impl.ErrUnsafe, impl.ErrStack, impl.ErrMask, impl.ErrIndirect)
}

// A drawing is code that is to be taken, drawn piece by piece, and what is to be told of it.
type drawing struct {
	random *rand.Rand
	plain  []impl.Instr
	at     int
	size   int
	text   string
	told   impl.Report
	goers  []int // where the jumps of numbers end, one by one
	lively bool  // few hlts stand in it, and most of what it does goes well
}

// plainInstrs are those that no rule has anything against, wherever they stand.
func plainInstrs(t *testing.T) []impl.Instr {
	m, e := newEncodings(t), newEffects(t)
	return slices.DeleteFunc(cpuInstrs(m), func(x impl.Instr) bool {
		op, regs := opWord(x), e.touch(x).Regs
		_, place := placeOf(x)
		far := []string{"call", "jmp", "jcc", "ret", "stos", "movs", "syscall", "int"}
		return place || slices.Contains(far, op) || op != "push" && (slices.Contains(regs, 4) && op != "pop" || slices.Contains(regs, 5) || slices.Contains(regs, 15)) || op == "pop" && x.Dst.Reg == 4
	})
}

// room is how much is left of the bundle.
func (d *drawing) room() int { return 32 - len(d.text)%32 }

func (d *drawing) place(text string, inner bool) {
	d.told.Starts = append(d.told.Starts, len(d.text))
	if inner {
		d.told.Inner = append(d.told.Inner, len(d.text))
	}
	d.text += text
}

func (d *drawing) fill(n int) {
	for range n {
		piece := [2]string{nop, hlt}[d.random.Intn(2)]
		if d.lively {
			piece = nop
		}
		d.place(piece, false)
	}
}

// group places pieces in one bundle, of which the last ones are inner; atEnd makes them end it. Where the text has no room for them it is filled.
func (d *drawing) group(inner int, atEnd bool, list ...string) bool {
	all := strings.Join(list, "")
	if len(all) > d.room() {
		d.fill(d.room())
	}
	if len(d.text)+len(all) > d.size {
		return false
	}
	if atEnd {
		d.fill(d.room() - len(all))
	}
	for i, piece := range list {
		d.place(piece, i >= len(list)-inner)
	}
	return true
}

// goer places a jump whose number is laid down behind all.
func (d *drawing) goer(op int) {
	if d.group(0, op == impl.OpCall, going(op, 0, 0)) {
		d.goers = append(d.goers, len(d.text))
	}
}

func (d *drawing) among(list ...int) int { return list[d.random.Intn(len(list))] }

// user is an instruction that reads or writes a place.
func (d *drawing) user(place impl.Operand) string {
	list := usersOf(place)
	return encoded(list[d.random.Intn(len(list))])
}

func (d *drawing) disp() int { return d.among(0, 8, -8, 2047, -2048, d.random.Intn(4096)-2048) }

// besideRip reads memory that is reached at any place that may be.
func (d *drawing) besideRip() {
	if d.room() < 7 {
		d.fill(d.room())
	}
	next := d.at + len(d.text) + 7
	d.group(0, false, reading(ofMemory(impl.RegRip, -1, 1, d.among(14336, 22527, 14336+d.random.Intn(8192))-next)))
}

// draw places one piece, or those that stand together.
func (d *drawing) draw() {
	reg := d.among(0, 1, 2, 3, 6, 7, 8, 9, 10, 11, 12, 13, 14)
	stack := d.among(4, 5)
	switch d.random.Intn(14) {
	case 0:
		d.group(1, d.random.Intn(4) == 0, masking(reg, 4095), d.user(indexedBy(reg, d.disp())))
	case 1:
		d.group(1, d.random.Intn(4) == 0, masking(stack, 4095), basing(stack))
	case 2:
		list := settersOf(stack)
		d.group(1, d.random.Intn(4) == 0, encoded(list[d.random.Intn(len(list))]), masking(stack, 4095), basing(stack))
	case 3:
		d.group(2, d.random.Intn(4) == 0, masking(reg, 4064), basing(reg), through(impl.OpJmp, ofReg(reg)))
	case 4:
		d.group(2, true, masking(reg, 4064), basing(reg), through(impl.OpCall, ofReg(reg)))
	case 5:
		d.group(0, false, masking(reg, d.among(4064, 4095)), basing(reg), nop)
	case 6, 7:
		d.goer(d.among(impl.OpJmp, impl.OpJcc))
	case 8:
		d.goer(impl.OpCall)
	case 9:
		d.group(0, false, d.user(basedOn(d.among(4, 5, 15), d.disp())))
	case 10:
		d.besideRip()
	case 11:
		d.group(0, false, encoded(pair(impl.OpMov, 8, ofReg(stack), ofReg(9-stack))))
	default:
		d.group(0, d.random.Intn(9) == 0, encoded(d.plain[d.random.Intn(len(d.plain))]))
	}
}

// aim lays down where the jumps of numbers go: to starts that are not inner, and to trampolines.
func (d *drawing) aim() {
	may := slices.DeleteFunc(slices.Clone(d.told.Starts), func(start int) bool { return slices.Contains(d.told.Inner, start) })
	for _, end := range d.goers {
		goal := may[d.random.Intn(len(may))]
		if d.random.Intn(3) == 0 {
			goal = 16640 + 32*d.random.Intn(8) - d.at
		}
		d.text = d.text[:end-4] + string(bytesOfNumber(goal-end, 4)) + d.text[end:]
		d.told.Goals = append(d.told.Goals, goal)
	}
}

// drawn is code of so many bundles, or one more, at a place where it may stand.
func drawn(random *rand.Rand, plain []impl.Instr, bundles int) *drawing {
	return drawnAt(random, plain, bundles, 16896+32*random.Intn(96-bundles))
}

// drawnAt is code of so many bundles, or one more, for that place.
func drawnAt(random *rand.Rand, plain []impl.Instr, bundles, at int) *drawing {
	d := &drawing{random: random, plain: plain, size: 32 * bundles, at: at}
	for len(d.text) < d.size {
		d.draw()
	}
	d.end()
	return d
}

// end has a jump or a hlt as the last one, and lays down where the jumps go.
func (d *drawing) end() {
	if last := d.text[d.told.Starts[len(d.told.Starts)-1]:]; last[0] != 0xe9 && last != hlt {
		d.size += 32
		for len(d.text) < d.size {
			d.place(hlt, false)
		}
	}
	d.aim()
}

// TestDrawnCode holds for P9: code that is drawn by the rules is taken, and told as it was drawn.
func TestDrawnCode(t *testing.T) {
	random, plain := rand.New(rand.NewSource(14)), plainInstrs(t)
	inner, goals := 0, 0
	for i := range 700 {
		bundles := 1 + random.Intn(6)
		if i%100 == 0 {
			bundles = 95
		}
		d := drawn(random, plain, bundles)
		checkValidate(t, d.text, d.at, d.told, impl.OK)
		checkTiled(t, d.text, d.at)
		inner, goals = inner+len(d.told.Inner), goals+len(d.told.Goals)
	}
	if inner < 1000 || goals < 500 {
		t.Error("the sweep has", inner, goals)
	}
}

// damaged is code with one thing or two changed: a byte, bytes that go, bytes of other code, or the place where it stands.
func (d *drawing) damaged() (string, int) {
	text := []byte(d.text)
	for range 1 + d.random.Intn(2) {
		i, k := d.random.Intn(len(text)), d.random.Intn(len(text))
		switch d.random.Intn(6) {
		case 0:
			text[i] ^= 1 << d.random.Intn(8)
		case 1:
			text[i] = byte(d.random.Intn(256))
		case 2:
			text = append(slices.Delete(text, i, min(i+1+d.random.Intn(6), len(text))), nops(6)...)[:len(text)]
		case 3:
			text = slices.Insert(text, i, []byte(nops(1+d.random.Intn(3)))...)[:len(text)]
		case 4:
			n := min(1+d.random.Intn(8), len(text)-max(i, k))
			copy(text[i:i+n], slices.Clone(text[k:k+n]))
		case 5:
			return string(text), 16896 + 32*d.random.Intn(97-len(text)/32)
		}
	}
	return string(text), d.at
}

// TestDamagedCode holds code that was drawn and then changed against the tests' own validator, and what is taken all the same against P9.
func TestDamagedCode(t *testing.T) {
	random, plain, j := rand.New(rand.NewSource(15)), plainInstrs(t), newJudge(t)
	for range 250 {
		d := drawn(random, plain, 1+random.Intn(4))
		for range 30 {
			text, at := d.damaged()
			if j.check(text, at) == impl.OK {
				checkTiled(t, text, at)
			}
		}
	}
	j.checkCodes(5, impl.OK, impl.ErrOpcode, impl.ErrBundle, impl.ErrUnsafe, impl.ErrBase, impl.ErrStack, impl.ErrMask, impl.ErrDisp, impl.ErrIndirect, impl.ErrTarget, impl.ErrCall, impl.ErrText, impl.ErrRip)
	j.checkCodes(3, impl.ErrPrefix, impl.ErrEnd)
}

// TestAnyBytes holds bytes that follow no rule against the tests' own validator.
func TestAnyBytesAreJudged(t *testing.T) {
	random, j := rand.New(rand.NewSource(16)), newJudge(t)
	for range 4000 {
		text := make([]byte, 32*(1+random.Intn(3)))
		random.Read(text)
		j.check(string(text), 16896+32*random.Intn(90))
	}
	j.checkCodes(50, impl.ErrOpcode, impl.ErrMask, impl.ErrStack, impl.ErrUnsafe)
}

// TestEachInstruction holds each operation, with each kind of operands, against the tests' own validator: alone, behind the mask of its Index, and ahead of the pieces of a register of the stack.
func TestEachInstruction(t *testing.T) {
	j := newJudge(t)
	for i, x := range slices.Concat(cpuInstrs(newEncodings(t)), fairInstrs(newEncodings(t))) {
		text := encoded(x)
		j.check(filled(text), codeAt)
		switch i % 3 {
		case 0:
			j.check(filled(masking(9, 4095)+text), codeAt)
		case 1:
			j.check(filled(text+masking(4, 4095)+basing(4)), codeAt)
		case 2:
			j.check(lastly(text)+strings.Repeat(hlt, 32), codeAt)
		}
	}
	j.checkCodes(5, impl.OK, impl.ErrUnsafe, impl.ErrStack, impl.ErrMask, impl.ErrIndirect, impl.ErrCall)
}

// TestEachPlaceOfCode has code at each address about where it may stand, by its length; of what is taken, memory beside the instruction and trampolines are those of that address.
func TestEachPlaceOfCode(t *testing.T) {
	for _, bundles := range []int{1, 2, 3, 95, 96} {
		text := strings.Repeat(hlt, 32*bundles)
		for at := 16896 - 70; at <= 19968+70; at++ {
			if bundles > 3 && !within(at, 16850, 16990) {
				continue
			}
			want, code := impl.Report{}, impl.ErrRange
			if at%32 == 0 && within(at, 16896, 19968-32*bundles) {
				want.Starts, code = upTo(32*bundles), impl.OK
			}
			checkValidate(t, text, at, want, code)
		}
	}
	for at := 16896; at <= 19936; at += 32 {
		for k := range 8 {
			goal := 16640 + 32*k - at
			text := filled(going(impl.OpJmp, 0, goal) + reading(ofMemory(impl.RegRip, -1, 1, 22527-at-12)) + reading(ofMemory(impl.RegRip, -1, 1, 14336-at-19)))
			want := takenCase{pieces: pieces(text[:5], text[5:12], text[12:19], text[19:]), goals: []int{goal}}
			checkValidate(t, text, at, impl.Report{Starts: want.startsOf(), Goals: want.goals}, impl.OK)
			checkTiled(t, text, at)
			for _, other := range []int{at - 32, at + 32} {
				if got, code := impl.Validate(text, other); within(other, 16896, 19936) && (code != impl.ErrRip || !sameReport(got, impl.Report{At: [2]int{12, 5}[(other-at+32)/64]})) {
					t.Errorf("Validate of a text for %d at %d = %+v, %d", at, other, got, code)
				}
			}
		}
	}
	for _, at := range slices.Concat(farNumbers, []int{-16896, 0, 32, 1<<32 + 16896, 1<<16 + 16896}) {
		checkValidate(t, strings.Repeat(hlt, 32), at, impl.Report{}, impl.ErrRange)
	}
}
