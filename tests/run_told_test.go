package tests

import (
	"slices"
	"strings"
	"testing"

	"loop.example/g00664/impl"
)

// A script is code as it is run: its text, and the offsets that a run comes by, those of trampolines too.
type script struct {
	text  string
	trace []int
}

// then has instructions that are run one behind the other.
func (s *script) then(list ...string) *script {
	for _, piece := range list {
		s.trace = append(s.trace, len(s.text))
		s.text += piece
	}
	return s
}

// asWritten has instructions that the trace is told of elsewhere.
func (s *script) asWritten(list ...string) *script {
	s.text += strings.Join(list, "")
	return s
}

// over goes on so many bytes ahead of the bundle's end, over hlts.
func (s *script) over(ahead int) *script {
	switch gap := 32 - len(s.text)%32 - ahead; gap {
	case 0:
	case 1:
		s.then(nop)
	default:
		s.then("\xeb" + string([]byte{byte(gap - 2)})).asWritten(strings.Repeat(hlt, gap-2))
	}
	return s
}

// calls runs these and calls a goal at the end of their bundle.
func (s *script) calls(goal int, list ...string) *script {
	s.then(list...).over(5)
	return s.then(going(impl.OpCall, len(s.text), goal))
}

// service calls a trampoline, of code that stands at 16896.
func (s *script) service(n int, list ...string) *script {
	s.calls(trampFrom(n), list...)
	s.trace = append(s.trace, trampFrom(n))
	return s
}

// again has the trace come by once more.
func (s *script) again(times int, list ...int) *script {
	for range times {
		s.trace = append(s.trace, list...)
	}
	return s
}

// trampFrom is where a trampoline begins as an offset from 16896.
func trampFrom(n int) int { return 32*n - 256 }

func setting(reg, n int) string { return encoded(pair(impl.OpMov, 4, ofReg(reg), ofNumber(n))) }

func moving(dst, src impl.Operand) string { return encoded(pair(impl.OpMov, 8, dst, src)) }

// A ranCase is a program, its data at 1024 if there are some, and the run of it: what it reads and writes, and what is another one behind it.
type ranCase struct {
	name   string
	script *script
	data   string
	input  string
	told   []impl.Access
	then   func(b *impl.Box)
}

func (v ranCase) image() impl.Image {
	im := programOf(512, v.script.text)
	if v.data != "" {
		im = withSegment(im, dataSegment(6, 1024, len(v.data), v.data))
	}
	return im
}

// faultsAt is the change that a box is faulted where an offset of the code is.
func faultsAt(code, offset int) func(b *impl.Box) {
	return func(b *impl.Box) {
		b.Cpu.Rip = 16896 + offset
		faults(code, 16896+offset)(b)
	}
}

// both are changes one behind the other.
func both(list ...func(b *impl.Box)) func(b *impl.Box) {
	return func(b *impl.Box) {
		for _, change := range list {
			change(b)
		}
	}
}

func regsAre(regs map[int]int) func(b *impl.Box) {
	return func(b *impl.Box) {
		for reg, n := range regs {
			b.Cpu.Regs[reg] = n
		}
	}
}

func putsBytes(address int, text string) func(b *impl.Box) {
	return func(b *impl.Box) { b.Memory = laidByHand(b.Memory, address, text) }
}

// sumRun adds up 5, 4, 3, 2 and 1.
func sumRun() ranCase {
	s := new(script).then(encoded(pair(impl.OpXor, 4, ofReg(0), ofReg(0))), setting(1, 5)).
		then(encoded(pair(impl.OpAdd, 8, ofReg(0), ofReg(1))), encoded(single(impl.OpDec, 4, ofReg(1))), "\x75\xf9").again(4, 8, 11, 13).then(hlt)
	return ranCase{name: "a sum", script: s, then: both(faultsAt(impl.ErrHalt, 15), regsAre(map[int]int{0: 15}), func(b *impl.Box) { b.Cpu.Flags = impl.FlZ + impl.FlP })}
}

// dataRun loads, stores, pushes, pops, and has memory that is read and written.
func dataRun() ranCase {
	s := new(script).then(setting(1, 1024), masking(1, 4095), reading(indexedBy(1, 0)), encoded(pair(impl.OpAdd, 8, ofReg(3), ofNumber(1)))).over(0).
		then(masking(1, 4095), moving(indexedBy(1, 4), ofReg(3)), "\x53", "\x5a", encoded(pair(impl.OpAdd, 4, basedOn(15, 1024), ofReg(2))), encoded(extend(impl.OpMovsx, 8, 1, ofReg(8), basedOn(4, -8)))).over(0).
		then(hlt)
	return ranCase{name: "loads and stores", script: s, data: "\xfe\x01\x00\x00\x00\x00\x00\x80" + "wordwo",
		told: accesses(readOf(17408, 8, -1<<63+510), writeOf(17412, 8, -1<<63+511), writeOf(20472, 8, -1<<63+511), readOf(20472, 8, -1<<63+511), readOf(17408, 4, 510), writeOf(17408, 4, 1021), readOf(20472, 1, 255)),
		then: both(faultsAt(impl.ErrHalt, 64), regsAre(map[int]int{1: 1024, 2: -1<<63 + 511, 3: -1<<63 + 511, 8: -1}), putsBytes(17408, "\xfd\x03\x00\x00\xff\x01\x00\x00\x00\x00\x00\x80"), putsBytes(20472, "\xff\x01\x00\x00\x00\x00\x00\x80"), func(b *impl.Box) { b.Cpu.Flags = 0 })}
}

// callRun calls what doubles register 1 twice, and each time comes back.
func callRun() ranCase {
	s := new(script).calls(96, setting(1, 5)).again(1, 96, 98, 100, 107, 110).calls(96, nop).again(1, 96, 98, 100, 107, 110).then(hlt)
	s.asWritten(strings.Repeat(hlt, 31), encoded(pair(impl.OpAdd, 4, ofReg(1), ofReg(1))), encoded(single(impl.OpPop, 8, ofReg(11))), masking(11, 4064), basing(11), through(impl.OpJmp, ofReg(11)))
	return ranCase{name: "calls and ways back", script: s,
		told: accesses(writeOf(20472, 8, 16928), readOf(20472, 8, 16928), writeOf(20472, 8, 16960), readOf(20472, 8, 16960)),
		then: both(faultsAt(impl.ErrHalt, 64), regsAre(map[int]int{1: 20, 11: 16960}), putsBytes(20472, "\x40\x42"), func(b *impl.Box) { b.Cpu.Flags = 0 })}
}

// serviceRun asks of each service, and keeps what each answers.
func serviceRun() ranCase {
	s := new(script).service(1, setting(7, 3584), setting(6, 100)).service(2, moving(ofReg(8), ofReg(0)), setting(7, 3585), setting(6, 4)).service(3, moving(ofReg(9), ofReg(0)), setting(7, 300)).
		service(4, moving(ofReg(10), ofReg(0))).service(4).service(5, moving(ofReg(11), ofReg(0))).service(6, moving(ofReg(12), ofReg(0))).service(7, moving(ofReg(13), ofReg(0))).
		service(0, moving(ofReg(14), ofReg(0)), encoded(pair(impl.OpMov, 4, ofReg(7), ofNumber(-9))))
	var told []impl.Access
	for back := 16928; back <= 16896+9*32; back += 32 {
		told = append(told, writeOf(20472, 8, back))
	}
	return ranCase{name: "services", script: s, data: "data", input: "hello, world", told: told, then: both(func(b *impl.Box) {
		b.Cpu.Rip, b.State, b.Code, b.At, b.Output, b.Brk, b.Clock, b.Seed = 16640, 2, -9, 12, "ello", 1580, 2, 1282168116
		b.Memory.Pages = slices.Insert(b.Memory.Pages, 5, toldPage(17664, 3, "", "\x00"), toldPage(17920, 3, "", "\x00"))
	}, putsBytes(19968, "hello, world"), putsBytes(20472, "\x20\x43"),
		regsAre(map[int]int{0: 1<<32 - 38, 4: 20472, 6: 4, 7: 1<<32 - 9, 8: 12, 9: 4, 10: 1280, 11: 1, 12: 19564, 13: 1<<32 - 38, 14: 1<<32 - 38}))}
}

// endingRuns end with a fault, each another one.
func endingRuns() []ranCase {
	var pushed []impl.Access
	for i := range 65 {
		pushed = append(pushed, writeOf(20472-8*i, 8, 0))
	}
	nowhere := new(script).then(setting(1, 3600), masking(1, 4064), basing(1), through(impl.OpJmp, ofReg(1)))
	nowhere.trace = append(nowhere.trace, 3072)
	return []ranCase{
		{name: "a halt at once", script: new(script).then(hlt), then: faultsAt(impl.ErrHalt, 0)},
		{name: "a division by nought", script: new(script).then(setting(0, 5), encoded(source(impl.OpDiv, 4, ofReg(1)))), then: both(faultsAt(impl.ErrDivide, 6), regsAre(map[int]int{0: 5}))},
		{name: "as many pushes as go", script: new(script).then("\x50", "\xeb\xfd").again(63, 0, 1).again(1, 0), told: pushed,
			then: both(faultsAt(impl.ErrPage, 0), func(b *impl.Box) { b.Cpu.Regs[4], b.Where = 19968, 19960 })},
		{name: "a store into the code", script: new(script).then(setting(1, 7), encoded(pair(impl.OpMov, 2, basedOn(15, 767), ofReg(1)))), told: accesses(writeOf(17151, 2, 7)),
			then: both(faultsAt(impl.ErrPerm, 6), func(b *impl.Box) { b.Cpu.Regs[1], b.Where = 7, 17151 })},
		{name: "a load from the guard", script: new(script).then(reading(basedOn(15, -2048))), told: accesses(readOf(14336, 8, 0)), then: both(faultsAt(impl.ErrPage, 0), func(b *impl.Box) { b.Where = 14336 })},
		{name: "a jump to where nothing may be run", script: nowhere, then: both(faultsAt(impl.ErrFetch, 3072), regsAre(map[int]int{1: 19968}), func(b *impl.Box) { b.Cpu.Flags = impl.FlP })},
		{name: "a trampoline without a way back", script: new(script).then(going(impl.OpJmp, 0, trampFrom(4))).again(1, trampFrom(4)), then: both(faultsAt(impl.ErrPage, trampFrom(4)), func(b *impl.Box) { b.Where = 20480 })},
		{name: "an exit without a call", script: new(script).then(going(impl.OpJmp, 0, trampFrom(0))).again(1, trampFrom(0)), then: func(b *impl.Box) { b.Cpu.Rip, b.State = 16640, 2 }},
	}
}

// lastingRuns have not ended behind MaxFuel steps, or end with the last of these.
func lastingRuns() []ranCase {
	many := strings.Split(nops(399), "")
	return []ranCase{
		{name: "a jump to itself", script: new(script).then("\xeb\xfe").again(399, 0), then: stays},
		{name: "one step more than there may be", script: new(script).then(many...).then(nop).asWritten(hlt), then: func(b *impl.Box) { b.Cpu.Rip = 16896 + 400 }},
		{name: "as many steps as there may be", script: new(script).then(many...).then(hlt), then: faultsAt(impl.ErrHalt, 399)},
	}
}

func toldRuns() []ranCase {
	return slices.Concat([]ranCase{sumRun(), dataRun(), callRun(), serviceRun()}, endingRuns(), lastingRuns())
}

// loadedRun is what was loaded of a told run, and its box.
func loadedRun(t *testing.T, v ranCase) (impl.Loaded, impl.Box) {
	t.Helper()
	l, where, code := impl.LoadImage(v.image())
	if code != impl.OK {
		t.Fatalf("%s is refused at %d: %q", v.name, where, impl.CodeWord(code))
	}
	b, code := impl.NewBox(l, v.input, 7)
	if code != impl.OK {
		t.Fatalf("%s has no box: %q", v.name, impl.CodeWord(code))
	}
	return l, b
}

func TestRunLimits(t *testing.T) {
	if impl.MaxFuel != 400 || impl.BrStart != 1 || impl.BrAccess != 2 || impl.BrWrite != 3 || impl.BrGuard != 4 || impl.BrBase != 5 || impl.BrText != 6 || impl.BrPrivate != 7 {
		t.Error(impl.MaxFuel, impl.BrStart, impl.BrAccess, impl.BrWrite, impl.BrGuard, impl.BrBase, impl.BrText, impl.BrPrivate)
	}
}

// TestToldRuns has programs of which all is told: the box behind them, how many steps there were, Rip ahead of each, and what they read and write.
func TestToldRuns(t *testing.T) {
	for _, v := range toldRuns() {
		_, b := loadedRun(t, v)
		want := withBox(b, v.then)
		code := impl.OK
		if want.State == impl.BxRun {
			code = impl.ErrFuel
		}
		got, many, c := impl.RunBox(b, impl.MaxFuel)
		if !likeBox(got, want) || many != len(v.script.trace) || c != code {
			t.Errorf("%s: %s, %d, %q, want %s, %d, %q", v.name, toldBox(got), many, impl.CodeWord(c), toldBox(want), len(v.script.trace), impl.CodeWord(code))
		}
		var trace []int
		for _, offset := range v.script.trace {
			trace = append(trace, 16896+offset)
		}
		if got, c := impl.TraceBox(b, impl.MaxFuel); !slices.Equal(got, trace) || c != impl.OK {
			t.Errorf("%s: the trace is %v, %q, want %v", v.name, got, impl.CodeWord(c), trace)
		}
	}
}

// TestToldSteps makes the steps of these programs one by one: what is run is told ahead of what is read and written, and of trampolines nothing.
func TestToldSteps(t *testing.T) {
	for _, v := range toldRuns() {
		_, b := loadedRun(t, v)
		want := withBox(b, v.then)
		var told []impl.Access
		for _, offset := range v.script.trace {
			next, list, code := impl.StepBox(b)
			if b.Cpu.Rip != 16896+offset || code != impl.OK {
				t.Fatalf("%s: a step from %d, %q, want %d", v.name, b.Cpu.Rip, impl.CodeWord(code), offset)
			}
			size := 1
			if x, code := impl.Decode(filled(v.script.text), offset); code == impl.OK {
				size = x.Len
			}
			switch _, tramp := trampByHand(b.Cpu.Rip); {
			case tramp && len(list) > 0:
				t.Errorf("%s: at the trampoline %d there is told %v", v.name, offset, list)
			case !tramp && (len(list) == 0 || list[0] != runOf(16896+offset, size)):
				t.Errorf("%s: at %d there is told %v", v.name, offset, list)
			case !tramp:
				told = append(told, list[1:]...)
			}
			b = next
		}
		if !slices.Equal(told, v.told) || !likeBox(b, want) {
			t.Errorf("%s: step by step %v, %s, want %v, %s", v.name, told, toldBox(b), v.told, toldBox(want))
		}
	}
}

// TestToldRunsAtEachLength has all numbers of steps of these programs, against the tests' own.
func TestToldRunsAtEachLength(t *testing.T) {
	for _, v := range toldRuns() {
		_, b := loadedRun(t, v)
		steps := checkRunBox(t, b, impl.MaxFuel)
		for n := range impl.MaxFuel + 1 {
			if n <= len(steps)+2 && sampled(n, len(steps)) {
				checkRunOf(t, b, n, steps[:min(n, len(steps))])
			}
		}
	}
}

// TestToldRunsBreakNothing holds for P14 and P15 of these programs.
func TestToldRunsBreakNothing(t *testing.T) {
	for _, v := range toldRuns() {
		l, b := loadedRun(t, v)
		checkKept(t, l, b)
		for n := range impl.MaxFuel + 1 {
			if sampled(n, impl.MaxFuel) {
				checkBreaches(t, b, l, n, nil)
			}
		}
	}
}
