package tests

import (
	"math/rand"
	"slices"
	"strings"
	"testing"

	"loop.example/g00664/impl"
)

// livelyPlace is what takes a register of the stack, or the sandbox's base, to where there is a page most of the time.
func (d *drawing) livelyPlace() impl.Operand {
	switch d.random.Intn(4) {
	case 0:
		return basedOn(4, d.among(0, -8, 8, 16, -64, d.random.Intn(256)-128))
	case 1:
		return basedOn(5, d.among(0, -8, -16, -256, -d.random.Intn(512)))
	case 2:
		return basedOn(15, d.among(512, 600, 1016, d.random.Intn(2048)))
	}
	return basedOn(15, d.disp())
}

// anyReg is a register that no rule is about.
func (d *drawing) anyReg() int { return d.among(0, 1, 2, 3, 6, 7, 8, 9, 10, 11, 12, 13, 14) }

// offset is one of the sandbox, and most of the time one that has a page.
func (d *drawing) offset() int {
	return d.among(3584+d.random.Intn(512), 3584+8*d.random.Intn(64), d.at-16384+d.random.Intn(d.size), d.random.Intn(4096), d.random.Int())
}

// enliven places a piece that goes well most of the time.
func (d *drawing) enliven() {
	reg, stack := d.anyReg(), d.among(4, 5)
	set := func(reg, n int) string { return setting(reg, n<<32>>32) }
	bundle := d.at - 16384 + 32*d.random.Intn(d.size/32)
	switch d.random.Intn(16) {
	case 0, 1:
		d.group(1, false, set(reg, d.offset()), masking(reg, 4095), d.user(indexedBy(reg, d.among(0, 0, 0, 8, -8, d.disp()))))
	case 2, 3:
		d.group(0, false, d.user(d.livelyPlace()))
	case 4:
		d.group(1, false, set(stack, 3700+8*d.random.Intn(48)), masking(stack, 4095), basing(stack))
	case 5:
		list := settersOf(stack)
		d.group(1, false, encoded(list[d.random.Intn(len(list))]), masking(stack, 4095), basing(stack))
	case 6:
		d.group(2, false, set(reg, bundle+d.random.Intn(32)), masking(reg, 4064), basing(reg), through(impl.OpJmp, ofReg(reg)))
	case 7:
		d.group(2, true, set(reg, bundle), masking(reg, 4064), basing(reg), through(impl.OpCall, ofReg(reg)))
	case 8:
		d.group(2, false, encoded(single(impl.OpPop, 8, ofReg(11))), masking(11, 4064), basing(11), through(impl.OpJmp, ofReg(11)))
	case 9, 10:
		d.group(0, false, set(7, d.offset()))
		d.group(0, false, set(6, d.among(0, 1, 8, 40, 300, d.random.Int())))
		d.goer(impl.OpCall)
	case 11:
		d.goer(d.among(impl.OpJmp, impl.OpJcc, impl.OpJcc))
	case 12:
		d.group(0, false, [4]string{"\x50", "\x53", "\x54", "\x59"}[d.random.Intn(4)])
	case 13:
		d.besideRip()
	default:
		d.group(0, false, encoded(d.plain[d.random.Intn(len(d.plain))]))
	}
}

// livelyAt is code of so many bundles, or one more, that goes on for a while most of the time; it begins with numbers of all kinds in its registers.
func livelyAt(random *rand.Rand, plain []impl.Instr, bundles, at int) *drawing {
	d := &drawing{random: random, plain: plain, size: 32 * bundles, at: at, lively: true}
	for range random.Intn(8) {
		n := regEdges[random.Intn(len(regEdges))]
		d.group(0, false, encoded(pair(impl.OpMov, 8, ofReg(d.anyReg()), ofNumber(oneOf(random, n, n, 16384+d.offset(), 4096, 32768, 12288+random.Intn(12288))))))
	}
	for len(d.text) < d.size {
		d.enliven()
	}
	d.end()
	return d
}

// unending are those of plainInstrs that do not end a run by themselves.
func unending(plain []impl.Instr) []impl.Instr {
	return slices.DeleteFunc(slices.Clone(plain), func(x impl.Instr) bool {
		return slices.Contains([]int{impl.OpHlt, impl.OpDiv, impl.OpIdiv}, x.Op)
	})
}

// livelyImage is such code, at one of several places, with data ahead or behind.
func livelyImage(random *rand.Rand, plain []impl.Instr) impl.Image {
	var im impl.Image
	vaddr := oneOf(random, 512, 512, 768, 1536)
	if vaddr > 512 && random.Intn(2) == 0 {
		im = withSegment(im, dataSegment(oneOf(random, 4, 6), 512, 1+random.Intn(vaddr-512), someData(random, 1)))
	}
	d := livelyAt(random, plain, 4+random.Intn(24), 16384+vaddr)
	im = withSegment(im, dataSegment(5, vaddr, len(d.text), d.text))
	im.Entry = vaddr
	if random.Intn(4) == 0 {
		im.Entry += 32 * random.Intn(len(d.text)/32)
	}
	if behind := vaddr + (len(d.text)+255)/256*256; random.Intn(3) > 0 {
		im = withSegment(im, dataSegment(oneOf(random, 4, 6, 6), behind, 1+random.Intn(3584-behind), someData(random, 1)))
	}
	return im
}

// anyInstruction is the bytes of an instruction that random bytes begin with, however it is encoded.
func anyInstruction(random *rand.Rand) string {
	for {
		text := someData(random, 15)
		if n, code := impl.LengthAt(text, 0); code == impl.OK {
			return text[:n]
		}
	}
}

// takenBundle grows by pieces of all kinds as long as the validator takes it, with nops behind it and a bundle of hlts.
func takenBundle(random *rand.Rand, words []string) string {
	text := ""
	for range 30 {
		more := text
		for range 1 + random.Intn(3) {
			if random.Intn(3) == 0 {
				more += anyInstruction(random)
			} else {
				more += words[random.Intn(len(words))]
			}
		}
		if len(more) > 32 {
			continue
		}
		if _, code := impl.Validate(more+nops(32-len(more))+strings.Repeat(hlt, 32), codeAt); code == impl.OK {
			text = more
		}
	}
	ahead := random.Intn(2) * (32 - len(text))
	return (nops(ahead) + text + nops(32))[:32]
}

// bundledImage is an image of such bundles, if it is taken as a whole.
func bundledImage(random *rand.Rand, words []string) (impl.Image, bool) {
	text := ""
	for range 3 + random.Intn(20) {
		text += takenBundle(random, words)
	}
	im := programOf(512, text+strings.Repeat(hlt, 32))
	im.Entry += 32 * random.Intn(3)
	_, _, code := impl.LoadImage(im)
	return im, code == impl.OK
}

// bundleWords are pieces of bundles: those of the rules, what reads and writes memory, what sets registers, jumps, and all else.
func bundleWords(t *testing.T) []string {
	list := neighbourWords()
	for _, x := range plainInstrs(t) {
		if len(list) < 400 {
			list = append(list, encoded(x))
		}
	}
	for _, place := range []impl.Operand{basedOn(4, -8), basedOn(4, -64), basedOn(5, -8), basedOn(5, -500), basedOn(15, 600), basedOn(15, -2048), basedOn(15, 3000), indexedBy(1, 0), indexedBy(1, 2047), ofMemory(impl.RegRip, -1, 1, 100), basedOn(0, 0)} {
		for _, x := range usersOf(place) {
			list = append(list, encoded(x))
		}
	}
	for _, reg := range []int{4, 5} {
		mask, base := masking(reg, 4095), basing(reg)
		for _, x := range settersOf(reg) {
			list = append(list, encoded(x)+mask+base, encoded(x)+mask, encoded(x))
		}
		list = append(list, mask+base, mask, base)
	}
	for _, n := range []int{0, 1, 544, 600, 3584, 3600, 3700, 4000, 4088, 4095, 4096, 4064, -1, 1 << 30} {
		jump := masking(1, 4064) + basing(1) + through(impl.OpJmp, ofReg(1))
		list = append(list, setting(1, n), setting(1, n)+masking(1, 4095)+moving(indexedBy(1, 0), ofReg(3)), setting(1, n)+jump, masking(1, 4095), jump, "\xeb"+string([]byte{byte(n)}), "\x74"+string([]byte{byte(n)}))
	}
	return list
}
