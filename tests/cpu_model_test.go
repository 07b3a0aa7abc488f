package tests

import (
	"fmt"
	"math/big"
	"slices"
	"testing"

	"loop.example/g00664/impl"
)

// A machine is the tests' own processor: its registers are bytes, its addresses numbers without bounds, and its memory is looked up by hand.
type machine struct {
	regs  [16][8]byte
	rip   int
	flags int
	m     impl.Memory
	told  []impl.Access
	x     impl.Instr
}

// modelFault is what a machine panics with.
type modelFault int

func readOf(address, size, v int) impl.Access {
	return impl.Access{Kind: 1, Address: address, Size: size, Value: v}
}

func writeOf(address, size, v int) impl.Access {
	return impl.Access{Kind: 2, Address: address, Size: size, Value: v}
}

func runOf(address, size int) impl.Access { return impl.Access{Kind: 3, Address: address, Size: size} }

// littleOf is the number without a sign that bytes are, and bytesOfNumber the other way.
func littleOf(text []byte) int {
	n := 0
	for i := range text {
		n = n<<8 + int(text[len(text)-1-i])
	}
	return n
}

func bytesOfNumber(n, size int) []byte {
	var text []byte
	for i := range size {
		text = append(text, byte(n>>(8*i)))
	}
	return text
}

func machineOf(c impl.Cpu, m impl.Memory) *machine {
	k := &machine{rip: c.Rip, flags: c.Flags, m: m}
	for i, v := range c.Regs {
		copy(k.regs[i][:], bytesOfNumber(v, 8))
	}
	return k
}

func (k *machine) cpu() impl.Cpu {
	c := impl.Cpu{Rip: k.rip, Flags: k.flags}
	for i, text := range k.regs {
		c.Regs[i] = littleOf(text[:])
	}
	return c
}

// part is the bytes that a register of a size is.
func (k *machine) part(reg, size int) []byte {
	if reg >= 16 {
		return k.regs[reg-16][1:2]
	}
	return k.regs[reg][:size]
}

func (k *machine) get(reg, size int) int { return littleOf(k.part(reg, size)) }

func (k *machine) put(reg, size, v int) {
	copy(k.part(reg, size), bytesOfNumber(v, size))
	if size == 4 {
		clear(k.regs[reg][4:])
	}
}

// around is a sum of numbers without bounds, taken modulo 2 to the 64, with a sign.
func around(list ...int) int {
	sum := new(big.Int)
	for _, n := range list {
		sum.Add(sum, big.NewInt(int64(n)))
	}
	return int(signedOf(lowestOf(sum, 8), 8).Int64())
}

// at is the address of an operand of memory, of which rip is the next address.
func (k *machine) at(x impl.Operand) int {
	list := []int{x.Disp}
	switch {
	case x.Base == 16:
		list = append(list, k.rip)
	case x.Base >= 0:
		list = append(list, k.get(x.Base, 8))
	}
	for range x.Scale {
		if x.Index >= 0 {
			list = append(list, k.get(x.Index, 8))
		}
	}
	return around(list...)
}

func (k *machine) load(address, size int) int {
	if _, code := faultByHand(k.m, address, size, 1); code != 0 {
		k.told = append(k.told, readOf(address, size, 0))
		panic(modelFault(code))
	}
	v := littleOf([]byte(bytesByHand(k.m, address, size)))
	k.told = append(k.told, readOf(address, size, v))
	return v
}

func (k *machine) store(address, size, v int) {
	text := bytesOfNumber(v, size)
	k.told = append(k.told, writeOf(address, size, littleOf(text)))
	if _, code := faultByHand(k.m, address, size, 2); code != 0 {
		panic(modelFault(code))
	}
	k.m = laidByHand(k.m, address, string(text))
}

func (k *machine) read(x impl.Operand, size int) int {
	switch x.Kind {
	case 1:
		return k.get(x.Reg, size)
	case 2:
		return k.load(k.at(x), size)
	}
	return x.Imm
}

func (k *machine) write(x impl.Operand, size, v int) {
	if x.Kind == 1 {
		k.put(x.Reg, size, v)
		return
	}
	k.store(k.at(x), size, v)
}

func (k *machine) readDst() int   { return k.read(k.x.Dst, k.x.Size) }
func (k *machine) readSrc() int   { return k.read(k.x.Src, k.x.Size) }
func (k *machine) writeDst(v int) { k.write(k.x.Dst, k.x.Size, v) }

// upperOf is the register of upper halves.
func upperOf(size int) int {
	if size == 1 {
		return 16
	}
	return 2
}

// reckon does what has to do with numbers; false of another operation.
func (k *machine) reckon() bool {
	x, a, v := k.x, 0, 0
	switch op := chapterOps[x.Op-1]; op {
	case "add", "or", "adc", "sbb", "and", "sub", "xor", "cmp", "test":
		a = k.readDst()
		v, k.flags = aluModel(x.Op, x.Size, a, k.readSrc(), k.flags)
		if op != "cmp" && op != "test" {
			k.writeDst(v)
		}
	case "not", "neg", "inc", "dec":
		v, k.flags = oneModel(x.Op, x.Size, k.readDst(), k.flags)
		k.writeDst(v)
	case "rol", "ror", "shl", "shr", "sar":
		text := bitsOf(k.readDst(), x.Size)
		count := k.read(x.Src, 1) % 32
		if x.Size == 8 {
			count = k.read(x.Src, 1) % 64
		}
		for range count {
			text, k.flags = shiftModel(x.Op, text, k.flags)
		}
		k.writeDst(numberOf(text))
	case "imul":
		a = k.readDst()
		v, _, k.flags = timesModel(x.Op, x.Size, a, k.readSrc(), k.flags)
		k.writeDst(v)
	case "mul", "imul1":
		v, a, k.flags = timesModel(x.Op, x.Size, k.get(0, x.Size), k.readSrc(), k.flags)
		k.put(0, x.Size, v)
		k.put(upperOf(x.Size), x.Size, a)
	case "div", "idiv":
		v, a, code := divideModel(x.Op, x.Size, k.get(upperOf(x.Size), x.Size), k.get(0, x.Size), k.readSrc())
		if code != 0 {
			panic(modelFault(code))
		}
		k.put(0, x.Size, v)
		k.put(upperOf(x.Size), x.Size, a)
	default:
		return false
	}
	return true
}

// carry does what moves numbers; false of another operation.
func (k *machine) carry() bool {
	x := k.x
	switch chapterOps[x.Op-1] {
	case "mov":
		k.writeDst(k.readSrc())
	case "xchg":
		a, b := k.readDst(), k.readSrc()
		k.writeDst(b)
		k.write(x.Src, x.Size, a)
	case "lea":
		k.writeDst(k.at(x.Src))
	case "movzx":
		k.writeDst(k.read(x.Src, x.From))
	case "movsx":
		k.writeDst(int(signedOf(k.read(x.Src, x.From), x.From).Int64()))
	case "setcc":
		k.writeDst(flagIf(1, holdsModel(x.Cond, k.flags)))
	case "cmov":
		v := k.readSrc()
		if !holdsModel(x.Cond, k.flags) {
			v = k.readDst()
		}
		k.writeDst(v)
	case "cwide":
		k.put(0, x.Size, int(signedOf(k.get(0, x.Size/2), x.Size/2).Int64()))
	case "csign":
		k.put(2, x.Size, flagIf(-1, signedOf(k.get(0, x.Size), x.Size).Sign() < 0))
	case "stos":
		k.store(k.get(7, 8), 1, k.get(0, 1))
		k.put(7, 8, around(k.get(7, 8), 1))
	case "movs":
		k.store(k.get(7, 8), 1, k.load(k.get(6, 8), 1))
		k.put(6, 8, around(k.get(6, 8), 1))
		k.put(7, 8, around(k.get(7, 8), 1))
	case "nop":
	default:
		return false
	}
	return true
}

func (k *machine) push(v int) {
	k.put(4, 8, around(k.get(4, 8), -8))
	k.store(k.get(4, 8), 8, v)
}

func (k *machine) pop() int {
	v := k.load(k.get(4, 8), 8)
	k.put(4, 8, around(k.get(4, 8), 8))
	return v
}

// goal is where a jump goes to.
func (k *machine) goal() int {
	if k.x.Src.Kind == 3 {
		return around(k.rip, k.x.Src.Imm)
	}
	return k.readSrc()
}

// leave does what is left: the stack, jumps and ends.
func (k *machine) leave() {
	switch chapterOps[k.x.Op-1] {
	case "push":
		k.push(k.readSrc())
	case "pop":
		v := k.pop()
		k.writeDst(v)
	case "call":
		goal := k.goal()
		k.push(k.rip)
		k.rip = goal
	case "ret":
		k.rip = k.pop()
	case "jmp":
		k.rip = k.goal()
	case "jcc":
		if holdsModel(k.x.Cond, k.flags) {
			k.rip = k.goal()
		}
	case "hlt":
		panic(modelFault(impl.ErrHalt))
	case "syscall", "int":
		panic(modelFault(impl.ErrTrap))
	}
}

// An outcome is what ExecInstr and StepCpu answer.
type outcome struct {
	cpu    impl.Cpu
	memory impl.Memory
	told   []impl.Access
	code   int
}

func outcomeOf(c impl.Cpu, m impl.Memory, told []impl.Access, code int) outcome {
	return outcome{c, m, told, code}
}

func (a outcome) like(b outcome) bool {
	return a.cpu == b.cpu && alike(a.memory, b.memory) && slices.Equal(a.told, b.told) && a.code == b.code
}

// short is an outcome without its memory, whose pages are long.
func (a outcome) short() string {
	return fmt.Sprintf("%+v, %d pages, %v, code %d", a.cpu, len(a.memory.Pages), a.told, a.code)
}

// execModel is what an instruction that is right does.
func execModel(c impl.Cpu, m impl.Memory, x impl.Instr) (got outcome) {
	k := machineOf(c, m)
	k.x = x
	k.rip = around(k.rip, x.Len)
	defer func() {
		switch code := recover().(type) {
		case nil:
		case modelFault:
			got = outcome{c, m, k.told, int(code)}
		default:
			panic(code)
		}
	}()
	if !k.reckon() && !k.carry() {
		k.leave()
	}
	return outcome{k.cpu(), k.m, k.told, impl.OK}
}

// stepModel is what the instruction at Rip does; just what its bytes are is asked of the program.
func stepModel(c impl.Cpu, m impl.Memory) outcome {
	n, code := faultByHand(m, c.Rip, 15, 4)
	if n == 0 && code != 0 {
		return outcome{c, m, []impl.Access{runOf(c.Rip, 1)}, impl.ErrFetch}
	}
	x, code := impl.Decode(bytesByHand(m, c.Rip, n), 0)
	if code != 0 {
		return outcome{c, m, []impl.Access{runOf(c.Rip, 1)}, code}
	}
	got := execModel(c, m, x)
	got.told = append([]impl.Access{runOf(c.Rip, x.Len)}, got.told...)
	return got
}

// checkExec looks at ExecInstr of an instruction that is right, and answers what it is to answer.
func checkExec(t *testing.T, c impl.Cpu, m impl.Memory, x impl.Instr) outcome {
	t.Helper()
	want := execModel(c, m, x)
	if got := outcomeOf(impl.ExecInstr(c, m, x)); !got.like(want) {
		t.Fatalf("ExecInstr of %+v with %+v:\n%s, want\n%s", x, c, got.short(), want.short())
	}
	return want
}

// checkStep looks at StepCpu, and answers what it is to answer.
func checkStep(t *testing.T, c impl.Cpu, m impl.Memory) outcome {
	t.Helper()
	want := stepModel(c, m)
	if got := outcomeOf(impl.StepCpu(c, m)); !got.like(want) {
		t.Fatalf("StepCpu with %+v:\n%s, want\n%s", c, got.short(), want.short())
	}
	return want
}
