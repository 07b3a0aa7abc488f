package tests

import (
	"math/rand"
	"slices"
	"testing"

	"loop.example/g00664/impl"
)

// drawnProgram is an image whose code is drawn by the rules, among other segments, and that code.
func drawnProgram(random *rand.Rand, plain []impl.Instr) (impl.Image, *drawing) {
	im := drawnImage(random)
	run := slices.IndexFunc(im.Segments, func(s impl.Segment) bool { return s.Flags == 5 })
	s, end := &im.Segments[run], 3584
	if run+1 < len(im.Segments) {
		end = im.Segments[run+1].Vaddr
	}
	// What is drawn may have a bundle more than is asked for.
	bundles := 1 + random.Intn((end-s.Vaddr)/32-1)
	if random.Intn(8) > 0 {
		bundles = min(bundles, 1+random.Intn(20))
	}
	d := drawnAt(random, plain, bundles, 16384+s.Vaddr)
	s.Data, s.Memsz = d.text, len(d.text)
	im.Entry = s.Vaddr + 32*random.Intn(len(d.text)/32)
	return im, d
}

// TestDrawnProgramsAreLoaded holds for P11: code that is drawn by the rules is loaded, with the report of what was drawn and of the hlts behind it.
func TestDrawnProgramsAreLoaded(t *testing.T) {
	random, plain := rand.New(rand.NewSource(17)), plainInstrs(t)
	for range 500 {
		im, d := drawnProgram(random, plain)
		want := loadedModel(im)
		checkMap(t, im, want, impl.OK)
		want.Report = cloned(d.told)
		for next := len(d.text); next < want.Size; next++ {
			want.Report.Starts = append(want.Report.Starts, next)
		}
		checkLoaded(t, im, want, 0, impl.OK)
	}
}

// TestDamagedProgramsAreJudged holds images whose code was drawn and then changed against the tests' own.
func TestDamagedProgramsAreJudged(t *testing.T) {
	random, plain, j := rand.New(rand.NewSource(18)), plainInstrs(t), newJudge(t)
	for range 120 {
		im, d := drawnProgram(random, plain)
		run := slices.IndexFunc(im.Segments, func(s impl.Segment) bool { return s.Flags == 5 })
		for range 12 {
			text, _ := d.damaged()
			changed := imageOf(im.Entry, slices.Clone(im.Segments)...)
			changed.Segments[run].Data = text
			j.load(changed)
			if random.Intn(3) == 0 {
				j.load(damagedImage(random, changed))
			}
		}
	}
	j.checkCodes(5, impl.OK, impl.ErrOpcode, impl.ErrBundle, impl.ErrStack, impl.ErrMask, impl.ErrDisp, impl.ErrIndirect, impl.ErrTarget, impl.ErrCall, impl.ErrSegment, impl.ErrPerm, impl.ErrMany, impl.ErrEntry, impl.ErrText)
	j.checkCodes(2, impl.ErrPrefix, impl.ErrRip, impl.ErrBase, impl.ErrUnsafe)
}

// TestDrawnImagesAreMapped holds for P11 of many images, whatever their code does: it follows no rule here.
func TestDrawnImagesAreMapped(t *testing.T) {
	random, j := rand.New(rand.NewSource(19)), newJudge(t)
	for range 1200 {
		im := drawnImage(random)
		j.load(im)
		j.load(damagedImage(random, im))
	}
	j.checkCodes(20, impl.ErrOpcode, impl.ErrUnsafe, impl.ErrMask, impl.ErrStack, impl.ErrSegment, impl.ErrText, impl.ErrEntry)
}

// loadedOK is what chapter 12 says of what may have been loaded.
func (j *judge) loadedOK(l impl.Loaded) bool {
	if !rightMemory(l.Memory) || !within(l.Heap, 512, 3584) || l.Heap&255 != 0 || !within(l.Size, 1, 3072) {
		return false
	}
	if n, _ := faultByHand(l.Memory, l.TextAt, l.Size, 0); n < l.Size || l.Size&31 != 0 || l.TextAt&31 != 0 || !within(l.TextAt, 16896, 19968-l.Size) {
		return false
	}
	r, code := j.verdict(bytesByHand(l.Memory, l.TextAt, l.Size), l.TextAt)
	return code == impl.OK && sameReport(r, l.Report) && l.Entry&31 == 0 && mayGoBy(r, l.Size)[l.Entry-l.TextAt]
}

// rightMemory is what chapter 3 says of a memory.
func rightMemory(m impl.Memory) bool {
	last := -1
	for _, p := range m.Pages {
		if p.Base <= last || p.Base > 65535 || p.Base&255 != 0 || !within(p.Perm, 0, 7) || len(p.Data) != 256 {
			return false
		}
		last = p.Base
	}
	return len(m.Pages) <= 32
}

// changePages changes one thing of a memory's pages.
func changePages(random *rand.Rand, pages []impl.Page) []impl.Page {
	i, k := random.Intn(len(pages)), random.Intn(len(pages))
	switch random.Intn(7) {
	case 0:
		pages[i].Base = someNumber(random, pages[i].Base)
	case 1, 2:
		pages[i].Perm = random.Intn(9)
	case 3:
		return slices.Delete(pages, i, i+1)
	case 4:
		at := random.Intn(256)
		pages[i].Data = pages[i].Data[:at] + someData(random, 1) + pages[i].Data[at+1:]
	case 5:
		pages[i].Data = pages[k].Data
	case 6:
		pages[i], pages[k] = pages[k], pages[i]
	}
	return pages
}

// changeList changes one number of a list, or takes it away, or lays it there twice.
func changeList(random *rand.Rand, list []int) []int {
	if len(list) == 0 {
		return []int{random.Intn(9)}
	}
	i := random.Intn(len(list))
	switch random.Intn(4) {
	case 0:
		list[i] = someNumber(random, list[i])
	case 1:
		return slices.Delete(list, i, i+1)
	case 2:
		return slices.Insert(list, i, list[i])
	case 3:
		list[i] = list[random.Intn(len(list))]
	}
	return list
}

// changedLoaded is what was loaded, with one thing changed; it may be right all the same.
func changedLoaded(random *rand.Rand, l impl.Loaded) impl.Loaded {
	l.Report = cloned(l.Report)
	l.Memory.Pages = slices.Clone(l.Memory.Pages)
	switch random.Intn(11) {
	case 0, 1, 2:
		l.Memory.Pages = changePages(random, l.Memory.Pages)
	case 3:
		l.Entry = someNumber(random, l.Entry)
	case 4:
		l.Entry = l.TextAt + random.Intn(l.Size+64) - 32
	case 5:
		l.Heap = someNumber(random, l.Heap)
	case 6:
		l.TextAt = someNumber(random, l.TextAt)
	case 7:
		l.Size = someNumber(random, l.Size)
	case 8:
		l.Report.Starts = changeList(random, l.Report.Starts)
	case 9:
		l.Report.Inner = changeList(random, l.Report.Inner)
	case 10:
		l.Report.Goals = changeList(random, l.Report.Goals)
	}
	return l
}

// TestChangedLoads holds LoadedOK, and PrivateOK, of what was loaded and then changed against the tests' own.
func TestChangedLoads(t *testing.T) {
	random, plain, j, counts := rand.New(rand.NewSource(20)), plainInstrs(t), newJudge(t), map[bool]int{}
	for range 60 {
		im, _ := drawnProgram(random, plain)
		l, _, code := impl.LoadImage(im)
		if code != impl.OK {
			t.Fatal("what was drawn is not taken", code)
		}
		private := [2]string{bytesByHand(l.Memory, 4096, 256), bytesByHand(l.Memory, 32768, 256)}
		for range 50 {
			changed := changedLoaded(random, l)
			want := j.loadedOK(changed)
			checkLoadedOK(t, changed, want)
			counts[want]++
			if !rightMemory(changed.Memory) {
				checkPrivate(t, changed.Memory, false, impl.ErrBad)
				continue
			}
			held := true
			for i, base := range []int{4096, 32768} {
				n, _ := faultByHand(changed.Memory, base, 256, 0)
				held = held && n == 256 && bytesByHand(changed.Memory, base, 256) == private[i]
			}
			checkPrivate(t, changed.Memory, held, impl.OK)
		}
	}
	if counts[true] < 300 || counts[false] < 1000 {
		t.Error("the sweep has", counts)
	}
}
