package tests

import (
	"fmt"
	"slices"
	"strings"
	"testing"

	"loop.example/g00664/impl"
)

// loadedByte is what chapter 12 says of an address: the Perm of its page, 0 if there is none, and the byte there.
func loadedByte(im impl.Image, address int) (int, byte) {
	offset := address - 16384
	switch {
	case within(address, 4096, 4351):
		return 3, byte(7*(address-4096) + 3)
	case within(address, 32768, 33023):
		return 3, byte(7*(address-32768) + 3)
	case within(offset, 256, 511):
		return 4, 244
	case within(offset, 3584, 4095):
		return 3, 0
	}
	for _, s := range im.Segments {
		i, perm := offset-s.Vaddr, [7]int{4: 1, 5: 5, 6: 3}[s.Flags]
		switch {
		case i < 0, i/256 > (s.Memsz-1)/256:
		case i < len(s.Data):
			return perm, s.Data[i]
		case s.Flags == 5:
			return perm, 244
		default:
			return perm, 0
		}
	}
	return 0, 0
}

// loadedModel is what MapImage is to answer of an image that is right.
func loadedModel(im impl.Image) impl.Loaded {
	l := impl.Loaded{Entry: 16384 + im.Entry}
	for base := 0; base <= 65535; base += 256 {
		perm, _ := loadedByte(im, base)
		if perm == 0 {
			continue
		}
		data := make([]byte, 256)
		for i := range data {
			_, data[i] = loadedByte(im, base+i)
		}
		l.Memory.Pages = append(l.Memory.Pages, impl.Page{Base: base, Perm: perm, Data: string(data)})
	}
	for _, s := range im.Segments {
		l.Heap = s.Vaddr + 256*((s.Memsz-1)/256+1)
		if s.Flags == 5 {
			l.TextAt, l.Size = 16384+s.Vaddr, l.Heap-s.Vaddr
		}
	}
	return l
}

func likeLoaded(a, b impl.Loaded) bool {
	return alike(a.Memory, b.Memory) && a.Entry == b.Entry && a.Heap == b.Heap && a.TextAt == b.TextAt && a.Size == b.Size && sameReport(a.Report, b.Report)
}

// toldLoaded is what was loaded, as a text; of pages their bases and Perms alone.
func toldLoaded(l impl.Loaded) string {
	out := fmt.Sprintf("Entry %d, Heap %d, TextAt %d, Size %d, %+v", l.Entry, l.Heap, l.TextAt, l.Size, l.Report)
	for _, p := range l.Memory.Pages {
		out += fmt.Sprintf(", {%d, %d}", p.Base, p.Perm)
	}
	return out
}

// checkMap looks at what MapImage makes of an image: what is asked for, or a code.
func checkMap(t *testing.T, im impl.Image, want impl.Loaded, code int) {
	t.Helper()
	got, c := impl.MapImage(im)
	if !likeLoaded(got, want) || c != code {
		t.Errorf("MapImage(%s) = %s, %q, want %s, %q", toldImage(im), toldLoaded(got), impl.CodeWord(c), toldLoaded(want), impl.CodeWord(code))
	}
	if code == impl.OK {
		checkPages(t, im, got.Memory)
	}
	if impl.LoadedOK(got) {
		t.Errorf("what MapImage(%s) answers has no report and is right", toldImage(im))
	}
}

// checkLoaded looks at what LoadImage makes of an image, and LoadElf of its text.
func checkLoaded(t *testing.T, im impl.Image, want impl.Loaded, where, code int) {
	t.Helper()
	got, w, c := impl.LoadImage(im)
	if !likeLoaded(got, want) || w != where || c != code {
		t.Errorf("LoadImage(%s) = %s, %d, %q, want %s, %d, %q", toldImage(im), toldLoaded(got), w, impl.CodeWord(c), toldLoaded(want), where, impl.CodeWord(code))
	}
	if impl.LoadedOK(got) != (code == impl.OK) {
		t.Errorf("LoadedOK(%s) = %v", toldLoaded(got), code != impl.OK)
	}
	if yes, c := impl.PrivateOK(got.Memory); yes != (code == impl.OK) || c != impl.OK {
		t.Errorf("PrivateOK(%s) = %v, %q", toldLoaded(got), yes, impl.CodeWord(c))
	}
	if code == impl.OK {
		checkPages(t, im, got.Memory)
	}
	if _, c := imageModel(im); c == impl.OK {
		got, w, c := impl.LoadElf(planOf(im).text())
		if !likeLoaded(got, want) || w != where || c != code {
			t.Errorf("LoadElf of %s = %s, %d, %q, want %s, %d, %q", toldImage(im), toldLoaded(got), w, impl.CodeWord(c), toldLoaded(want), where, impl.CodeWord(code))
		}
	}
}

// checkPages holds for P11 of one image in memory: it is there, no page may be both written and run, and each lies in the sandbox or is private.
func checkPages(t *testing.T, im impl.Image, m impl.Memory) {
	t.Helper()
	if !impl.MemoryOK(m) {
		t.Errorf("the memory of %s is not right", toldImage(im))
	}
	for _, s := range im.Segments {
		want := s.Data + strings.Repeat("\x00", s.Memsz-len(s.Data))
		if got, code := impl.GetBytes(m, impl.SandBase+s.Vaddr, s.Memsz); got != want || code != impl.OK {
			t.Errorf("the segment at %d of %s has become % x, %q", s.Vaddr, toldImage(im), got, impl.CodeWord(code))
		}
	}
	for _, p := range m.Pages {
		if p.Perm&impl.PermWrite != 0 && p.Perm&impl.PermRun != 0 {
			t.Errorf("the page %d of %s may be written and run", p.Base, toldImage(im))
		}
		for _, address := range []int{p.Base, p.Base + 128, p.Base + 255} {
			if zone := impl.ZoneOf(address); zone != impl.ZnSandbox && zone != impl.ZnPrivate {
				t.Errorf("%s has a page in the zone %d", toldImage(im), zone)
			}
		}
	}
	for address := 0; address <= 65535; address += 64 {
		want, _ := loadedByte(im, address)
		if perm, _ := impl.PermAt(m, address); perm != want {
			t.Errorf("the Perm at %d of %s is %d, want %d", address, toldImage(im), perm, want)
		}
	}
}

// load holds all that loads an image against the tests' own, and answers LoadImage's code.
func (j *judge) load(im impl.Image) int {
	j.t.Helper()
	if _, code := imageModel(im); code != impl.OK {
		checkMap(j.t, im, impl.Loaded{}, code)
		checkLoaded(j.t, im, impl.Loaded{}, 0, code)
		j.codes[code]++
		return code
	}
	want := loadedModel(im)
	checkMap(j.t, im, want, impl.OK)
	report, code := j.verdict(bytesByHand(want.Memory, want.TextAt, want.Size), want.TextAt)
	j.codes[code]++
	if code != impl.OK {
		checkLoaded(j.t, im, impl.Loaded{}, report.At, code)
		return code
	}
	want.Report = report
	checkLoaded(j.t, im, want, 0, impl.OK)
	return code
}

// programOf is an image whose code is a text, with hlts up to the end of its last bundle, at a place.
func programOf(vaddr int, text string) impl.Image {
	text = filled(text)
	return imageOf(vaddr, dataSegment(5, vaddr, len(text), text))
}

// withSegment is an image with one segment more, behind the others.
func withSegment(im impl.Image, s impl.Segment) impl.Image {
	im.Segments = append(slices.Clone(im.Segments), s)
	return im
}
