package tests

import (
	"bytes"
	"debug/elf"
	"encoding/binary"
	"fmt"
	"slices"
	"strings"
	"testing"

	"loop.example/g00664/impl"
)

// imagePlaces are all the places where a segment may begin.
var imagePlaces = []int{512, 768, 1024, 1280, 1536, 1792, 2048, 2304, 2560, 2816, 3072, 3328}

// segmentModel is what chapter 11 says of a segment, told the number of the last page that the segment ahead has.
func segmentModel(s impl.Segment, lastAhead int, runAhead bool) int {
	page := slices.Index(imagePlaces, s.Vaddr)
	switch {
	case !slices.Contains([]int{4, 5, 6}, s.Flags):
		return impl.ErrPerm
	case page <= lastAhead, !within(s.Memsz, 1, 3072-256*page), len(s.Data) > s.Memsz:
		return impl.ErrSegment
	case s.Flags == 5 && (runAhead || len(s.Data) < s.Memsz || s.Memsz&31 != 0):
		return impl.ErrText
	}
	return impl.OK
}

// imageModel is what chapter 11 says of an image.
func imageModel(im impl.Image) (int, int) {
	switch n := len(im.Segments); {
	case n == 0:
		return 0, impl.ErrNone
	case n > 4:
		return 0, impl.ErrMany
	}
	last, entries := -1, []int(nil)
	for i, s := range im.Segments {
		if code := segmentModel(s, last, entries != nil); code != impl.OK {
			return i, code
		}
		last = (s.Vaddr-512)/256 + (s.Memsz-1)/256
		for entry := s.Vaddr; s.Flags == 5 && entry < s.Vaddr+s.Memsz; entry += 32 {
			entries = append(entries, entry)
		}
	}
	switch {
	case entries == nil:
		return 0, impl.ErrText
	case !slices.Contains(entries, im.Entry):
		return 0, impl.ErrEntry
	}
	return 0, impl.OK
}

// An elfPlan is an image's text by its parts, each of which may be wrong.
type elfPlan struct {
	head  elf.Header64
	progs []elf.Prog64
	rest  string
}

func headModel(entry, many int) elf.Header64 {
	h := elf.Header64{Type: 2, Machine: 62, Version: 1, Entry: uint64(entry), Phoff: 64, Ehsize: 64, Phentsize: 56, Phnum: uint16(many)}
	copy(h.Ident[:], "\x7fELF\x02\x01\x01")
	return h
}

// planOf is the plan of an image's text, right or not.
func planOf(im impl.Image) elfPlan {
	p := elfPlan{head: headModel(im.Entry, len(im.Segments))}
	begin := 64 + 56*len(im.Segments)
	for _, s := range im.Segments {
		p.progs = append(p.progs, elf.Prog64{Type: 1, Flags: uint32(s.Flags), Off: uint64(begin + len(p.rest)), Vaddr: uint64(s.Vaddr), Paddr: uint64(s.Vaddr), Filesz: uint64(len(s.Data)), Memsz: uint64(s.Memsz), Align: 256})
		p.rest += s.Data
	}
	return p
}

func (p elfPlan) text() string {
	var b bytes.Buffer
	for _, part := range []any{p.head, p.progs} {
		if err := binary.Write(&b, binary.LittleEndian, part); err != nil {
			panic(err)
		}
	}
	return b.String() + p.rest
}

// changed is a plan in which one thing is another one.
func (p elfPlan) changed(change func(p *elfPlan)) elfPlan {
	p.progs = slices.Clone(p.progs)
	change(&p)
	return p
}

// elfModel is what chapter 11 says of a text that is offered as an image.
func elfModel(text string) (impl.Image, int) {
	var p elfPlan
	rest := strings.NewReader(text)
	switch {
	case len(text) > 65536:
		return impl.Image{}, impl.ErrLong
	case binary.Read(rest, binary.LittleEndian, &p.head) != nil:
		return impl.Image{}, impl.ErrEnd
	case p.head != headModel(int(p.head.Entry), int(p.head.Phnum)):
		return impl.Image{}, impl.ErrMagic
	case p.head.Phnum > 4:
		return impl.Image{}, impl.ErrMany
	}
	p.progs = make([]elf.Prog64, p.head.Phnum)
	if binary.Read(rest, binary.LittleEndian, p.progs) != nil {
		return impl.Image{}, impl.ErrEnd
	}
	im := impl.Image{Entry: int(p.head.Entry)}
	for _, g := range p.progs {
		// What is below 0 is, without a sign, more than any text has.
		size := uint64(len(text))
		switch {
		case g.Type != 1, g.Paddr != g.Vaddr, g.Align != 256:
			return impl.Image{}, impl.ErrSegment
		case g.Off > size, g.Filesz > size-g.Off:
			return impl.Image{}, impl.ErrEnd
		}
		im.Segments = append(im.Segments, impl.Segment{Flags: int(g.Flags), Vaddr: int(g.Vaddr), Memsz: int(g.Memsz), Data: text[g.Off : g.Off+g.Filesz]})
	}
	if _, code := imageModel(im); code != impl.OK {
		return impl.Image{}, code
	}
	return im, impl.OK
}

// toldImage is an image, its Data by their length alone.
func toldImage(im impl.Image) string {
	out := fmt.Sprintf("Entry %d", im.Entry)
	for _, s := range im.Segments {
		out += fmt.Sprintf(", {%d at %d, %d, %d bytes}", s.Flags, s.Vaddr, s.Memsz, len(s.Data))
	}
	return out
}

// likeImage holds two images against one another, field by field.
func likeImage(a, b impl.Image) bool {
	return a.Entry == b.Entry && slices.Equal(a.Segments, b.Segments)
}

// checkRead looks at what ReadElf makes of a text: the code asked for, and what the tests' own reader makes of it.
func checkRead(t *testing.T, text string, code int) {
	t.Helper()
	want, c := elfModel(text)
	if c != code {
		t.Errorf("the tests' own reader answers %q, want %q", impl.CodeWord(c), impl.CodeWord(code))
	}
	if got, c := impl.ReadElf(text); !likeImage(got, want) || c != code {
		t.Errorf("ReadElf of %d bytes = %s, %q, want %s, %q", len(text), toldImage(got), impl.CodeWord(c), toldImage(want), impl.CodeWord(code))
	}
}

// checkImage looks at what each call of chapter 11 says of an image.
func checkImage(t *testing.T, im impl.Image, where, code int) {
	t.Helper()
	if w, c := imageModel(im); w != where || c != code {
		t.Errorf("%s: the tests' own model answers %d, %q, want %d, %q", toldImage(im), w, impl.CodeWord(c), where, impl.CodeWord(code))
	}
	if w, c := impl.CheckImage(im); w != where || c != code {
		t.Errorf("CheckImage(%s) = %d, %q, want %d, %q", toldImage(im), w, impl.CodeWord(c), where, impl.CodeWord(code))
	}
	if impl.ImageOK(im) != (code == impl.OK) {
		t.Errorf("ImageOK(%s) = %v", toldImage(im), code != impl.OK)
	}
	if code == impl.OK {
		checkRightImage(t, im)
	} else {
		checkWrongImage(t, im, code)
	}
}

// checkRightImage holds for P10 of one image: it is read back from its text.
func checkRightImage(t *testing.T, im impl.Image) {
	t.Helper()
	want := planOf(im).text()
	text, code := impl.ElfText(im)
	if text != want || code != impl.OK {
		t.Errorf("ElfText(%s) = % x, %q, want % x", toldImage(im), text, impl.CodeWord(code), want)
	}
	got, code := impl.ReadElf(want)
	if !likeImage(got, im) || code != impl.OK {
		t.Errorf("ReadElf(ElfText(%s)) = %s, %q", toldImage(im), toldImage(got), impl.CodeWord(code))
	}
	run := im.Segments[slices.IndexFunc(im.Segments, func(s impl.Segment) bool { return s.Flags == 5 })]
	if text, at, code := impl.TextOf(im); text != run.Data || at != 16384+run.Vaddr || code != impl.OK {
		t.Errorf("TextOf(%s) = %d bytes, %d, %q", toldImage(im), len(text), at, impl.CodeWord(code))
	}
	copied := impl.Image{Entry: im.Entry, Segments: slices.Clone(im.Segments)}
	if !impl.SameImage(im, im) || !impl.SameImage(im, copied) || !impl.SameImage(copied, im) {
		t.Errorf("%s is not the same as itself", toldImage(im))
	}
}

// checkWrongImage looks that an image that is not right is refused, and so is its text, if it can be told as one.
func checkWrongImage(t *testing.T, im impl.Image, code int) {
	t.Helper()
	if text, c := impl.ElfText(im); text != "" || c != impl.ErrBad {
		t.Errorf("ElfText(%s) = %d bytes, %q", toldImage(im), len(text), impl.CodeWord(c))
	}
	if text, at, c := impl.TextOf(im); text != "" || at != 0 || c != impl.ErrBad {
		t.Errorf("TextOf(%s) = %d bytes, %d, %q", toldImage(im), len(text), at, impl.CodeWord(c))
	}
	right := imageOf(512, codeSegment(512, 32))
	if impl.SameImage(im, im) || impl.SameImage(im, right) || impl.SameImage(right, im) {
		t.Errorf("%s is the same as an image", toldImage(im))
	}
	text := planOf(im).text()
	numbered := !slices.ContainsFunc(im.Segments, func(s impl.Segment) bool { return int(uint32(s.Flags)) != s.Flags })
	if numbered && len(im.Segments) < 65536 && len(text) <= 65536 {
		checkRead(t, text, code)
	}
}

func imageOf(entry int, segments ...impl.Segment) impl.Image {
	return impl.Image{Entry: entry, Segments: segments}
}

// codeSegment is a segment of FlagsRun of so many bytes.
func codeSegment(vaddr, size int) impl.Segment {
	return impl.Segment{Flags: 5, Vaddr: vaddr, Memsz: size, Data: strings.Repeat(hlt, max(size, 0))}
}

func dataSegment(flags, vaddr, memsz int, data string) impl.Segment {
	return impl.Segment{Flags: flags, Vaddr: vaddr, Memsz: memsz, Data: data}
}
