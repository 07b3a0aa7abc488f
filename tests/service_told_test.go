package tests

import (
	"math"
	"slices"
	"strings"
	"testing"

	"loop.example/g00664/impl"
)

// withPQ is a box whose registers 7 and 6 are p and q.
func withPQ(b impl.Box, p, q int) impl.Box {
	b.Cpu.Regs[7], b.Cpu.Regs[6] = p, q
	return b
}

func stays(*impl.Box) {}

// checkService looks at what a service makes of a box that goes on at 16960 when it is served: an answer, and what is changed; by Answer, and by Serve.
func checkService(t *testing.T, b impl.Box, n, answer int, change func(b *impl.Box)) impl.Box {
	t.Helper()
	want := withBox(b, change)
	got, a, code := impl.Answer(b, n)
	if !likeBox(got, want) || a != answer || code != impl.OK {
		t.Errorf("Answer(%s, %d) = %s, %d, %q, want %s, %d", toldBox(b), n, toldBox(got), a, impl.CodeWord(code), toldBox(want), answer)
	}
	served := want
	served.Cpu.Regs[0], served.Cpu.Regs[4], served.Cpu.Rip = answer&(1<<32-1), 20480, 16960
	if got, code := impl.Serve(b, n); !likeBox(got, served) || code != impl.OK {
		t.Errorf("Serve(%s, %d) = %s, %q, want %s", toldBox(b), n, toldBox(got), impl.CodeWord(code), toldBox(served))
	}
	checkAnswer(t, b, n)
	checkServe(t, b, n)
	return got
}

// lays is the change that bytes are laid at an offset, and that so many bytes more were read.
func lays(offset int, text string) func(b *impl.Box) {
	return func(b *impl.Box) {
		b.Memory = laidByHand(b.Memory, 16384+offset, text)
		b.At += len(text)
	}
}

// TestReads has SvRead of startBox, whose Input is 12 bytes.
func TestReads(t *testing.T) {
	for _, v := range []struct {
		p, q, at int
		text     string
	}{
		{1024, 5, 0, "hello"}, {1024, 0, 0, ""}, {1024, 1, 0, "h"}, {1024, 11, 0, "hello, worl"}, {1024, 12, 0, "hello, world"}, {1024, 13, 0, "hello, world"}, {1024, 512, 0, "hello, world"},
		{1024, 5, 7, "world"}, {1024, 4, 7, "worl"}, {1024, 6, 7, "world"}, {1024, 1, 11, "d"}, {1024, 2, 11, "d"}, {1024, 0, 11, ""}, {1024, 0, 12, ""}, {1024, 1, 12, ""}, {1024, 512, 12, ""},
		{1279, 2, 0, "he"}, {1270, 12, 0, "hello, world"}, {1500, 36, 0, "hello, world"}, {1530, 6, 10, "ld"}, {1535, 1, 0, "h"}, {3584, 512, 0, "hello, world"}, {4088, 8, 0, "hello, w"}, {4095, 1, 0, "h"},
		{0, 0, 0, ""}, {4096, 0, 0, ""}, {600, 0, 0, ""}, {2000, 0, 5, ""}, {1536, 0, 0, ""},
		// Of p and q the lowest four bytes count.
		{1<<32 + 1024, 5, 0, "hello"}, {-1<<32 + 1024, 5, 0, "hello"}, {math.MinInt + 1024, 5, 0, "hello"}, {1024, 1<<32 + 5, 0, "hello"}, {1024, -1<<32 + 5, 0, "hello"}, {1024, math.MinInt, 0, ""}, {1 << 60, -1 << 40, 0, ""},
	} {
		b := withBox(withPQ(startBox(), v.p, v.q), func(b *impl.Box) { b.At = v.at })
		checkService(t, b, impl.SvRead, len(v.text), lays(lowest(v.p), v.text))
	}
}

// TestReadsWithoutAccess has spans that cannot be written, all of them, although what would be laid is less, or nothing.
func TestReadsWithoutAccess(t *testing.T) {
	for _, at := range []int{0, 10, 12} {
		for _, v := range [][2]int{
			{512, 1}, {767, 2}, {768, 1}, {1023, 1}, {1023, 2}, {256, 1}, {255, 1}, {0, 1}, {1536, 1}, {1535, 2}, {1530, 7}, {1024, 513}, {1024, 4096}, {2000, 1}, {3583, 1}, {3583, 2}, {3584, 513}, {4095, 2}, {4096, 1},
			{4097, 0}, {4352, 0}, {16384, 0}, {17408, 1}, {17408, 0}, {-1, 0}, {-1, 1}, {-8, 8}, {-4096, 1}, {1024, -1}, {1024, -512}, {1024, 1 << 31}, {0, 4097}, {1 << 31, 0}, {1<<31 + 1024, 1}, {math.MaxInt, 0}, {math.MaxInt, math.MaxInt}, {1<<32 - 1, 1}, {1<<32 + 768, 1},
		} {
			b := withBox(withPQ(startBox(), v[0], v[1]), func(b *impl.Box) { b.At = at })
			checkService(t, b, impl.SvRead, -14, stays)
		}
	}
}

// TestWritten has SvWrite of what may be read, whatever else may be done with it.
func TestWritten(t *testing.T) {
	code, noughts := strings.Repeat("\xf4", 256), strings.Repeat("\x00", 256)
	for _, v := range []struct {
		p, q int
		text string
	}{
		{1024, 4, "data"}, {1024, 5, "data\x00"}, {1024, 0, ""}, {768, 5, "const"}, {772, 3, "t\x00\x00"}, {512, 3, "\xf4\xf4\xf4"}, {766, 4, "\xf4\xf4co"}, {1022, 6, "\x00\x00data"}, {1024, 512, "data" + noughts[4:] + noughts},
		{512, 256, code}, {4088, 8, "\x5f\x42\x00\x00\x00\x00\x00\x01"}, {4095, 1, "\x01"}, {4096, 0, ""}, {0, 0, ""}, {2000, 0, ""}, {1535, 1, "\x00"}, {3584, 504, (noughts + noughts)[:504]},
		{1<<32 + 768, 5, "const"}, {768, 1<<32 + 5, "const"}, {-1<<32 + 768, -1<<32 + 5, "const"}, {math.MinInt + 768, math.MinInt + 1, "c"}, {768, math.MinInt, ""},
	} {
		checkService(t, withPQ(startBox(), v.p, v.q), impl.SvWrite, len(v.text), func(b *impl.Box) { b.Output = v.text })
		for _, before := range []string{"x", strings.Repeat("y", 512-len(v.text))} {
			b := withBox(withPQ(startBox(), v.p, v.q), func(b *impl.Box) { b.Output = before })
			if len(before+v.text) <= 512 {
				checkService(t, b, impl.SvWrite, len(v.text), func(b *impl.Box) { b.Output = before + v.text })
			}
		}
	}
}

// TestWrittenWithoutSpace has just as many bytes as there is room for, one more, and more; that bytes cannot be read comes first.
func TestWrittenWithoutSpace(t *testing.T) {
	for _, held := range []int{0, 1, 200, 500, 511, 512} {
		before := strings.Repeat("o", held)
		for _, q := range []int{0, 1, 2, 11, 12, 13, 311, 312, 313, 511, 512, 513, 1024} {
			b := withBox(withPQ(startBox(), 512, q), func(b *impl.Box) { b.Output = before })
			if q > 512-held {
				checkService(t, b, impl.SvWrite, -28, stays)
				continue
			}
			text := bytesByHand(b.Memory, 16896, q)
			checkService(t, b, impl.SvWrite, q, func(b *impl.Box) { b.Output = before + text })
		}
		for _, v := range [][2]int{{256, 1}, {256, 256}, {255, 1}, {0, 1}, {0, 4096}, {1535, 2}, {512, 1025}, {1024, 513}, {1024, 1000}, {1536, 1}, {3584, 513}, {4095, 2}, {4096, 1}, {4097, 0}, {17152, 5}, {-1, 0}, {-1, 1}, {-16384, 1}, {1024, -1}, {1024, 1 << 31}, {math.MaxInt, 1}, {1 << 31, 0}} {
			b := withBox(withPQ(startBox(), v[0], v[1]), func(b *impl.Box) { b.Output = before })
			checkService(t, b, impl.SvWrite, -14, stays)
		}
	}
}

// TestAccessByPerm has pages of each Perm: of all that there are, what may be written is enough to read into, and what may be read to write out.
func TestAccessByPerm(t *testing.T) {
	for perm := range 8 {
		for other := range 8 {
			b := startBox()
			b.Memory = withPages(b.Memory, func(pages []impl.Page) []impl.Page {
				pages[4].Perm, pages[5].Perm = perm, other
				return pages
			})
			for _, v := range []struct{ p, q, all int }{{1024, 3, perm}, {1279, 1, perm}, {1280, 1, other}, {1279, 2, perm & other}, {1100, 300, perm & other}} {
				text := b.Input[:min(v.q, 12)]
				if v.all&2 != 0 {
					checkService(t, withPQ(b, v.p, v.q), impl.SvRead, len(text), lays(v.p, text))
				} else {
					checkService(t, withPQ(b, v.p, v.q), impl.SvRead, -14, stays)
				}
				if v.all&1 != 0 {
					out := bytesByHand(b.Memory, 16384+v.p, v.q)
					checkService(t, withPQ(b, v.p, v.q), impl.SvWrite, v.q, func(b *impl.Box) { b.Output = out })
				} else {
					checkService(t, withPQ(b, v.p, v.q), impl.SvWrite, -14, stays)
				}
			}
		}
	}
}

// TestReadInParts: what is read one part after the other is the Input, and what is written then is that, too.
func TestReadInParts(t *testing.T) {
	input := strings.Repeat("all bytes of it\x00\xff ", 57)[:1024]
	b := withBox(startBox(), func(b *impl.Box) { b.Input = input })
	read := ""
	for _, q := range []int{1, 0, 2, 255, 254, 257, 200, 53, 2, 512} {
		at, n := len(read), min(q, 1024-len(read))
		b = checkService(t, withPQ(b, 1024, q), impl.SvRead, n, lays(1024, input[at:at+n]))
		read += input[at : at+n]
		if len(b.Output)+n <= 512 {
			was := b.Output
			b = checkService(t, withPQ(b, 1024, n), impl.SvWrite, n, func(b *impl.Box) { b.Output = was + input[at:at+n] })
		}
	}
	if b.At != 1024 || read != input || b.Output != input[:512] {
		t.Error(b.At, len(read), len(b.Output))
	}
}

// TestClocks has the first ticks and the last ones; what p and q are does not count.
func TestClocks(t *testing.T) {
	for _, v := range [][2]int{{0, 1}, {1, 2}, {2, 3}, {65535, 65536}, {999998, 999999}, {999999, 1000000}, {1000000, 1000000}} {
		for _, p := range []int{0, -1, math.MaxInt, 4097} {
			b := withBox(withPQ(startBox(), p, p), func(b *impl.Box) { b.Clock = v[0] })
			checkService(t, b, impl.SvClock, v[0], func(b *impl.Box) { b.Clock = v[1] })
		}
	}
}

// TestRandoms has numbers in a row, and the largest Seed.
func TestRandoms(t *testing.T) {
	for first, row := range map[int][]int{
		1:          {16838, 5758, 10113, 17515, 31051, 5627, 23010, 7419, 16212, 4086},
		7:          {19564},
		2147483647: {15929},
		0:          {0},
	} {
		b := withBox(withPQ(startBox(), -1, -1), func(b *impl.Box) { b.Seed = first })
		for _, want := range row {
			seed := (b.Seed*1103515245 + 12345) % 2147483648
			b = checkService(t, b, impl.SvRandom, want, func(b *impl.Box) { b.Seed = seed })
		}
	}
	for _, v := range [][2]int{{0, 12345}, {7, 1282168116}, {2147483647, 1043980748}, {1 << 30, 1<<30 + 12345}} {
		b := withBox(startBox(), func(b *impl.Box) { b.Seed = v[0] })
		checkService(t, b, impl.SvRandom, v[1]/65536, func(b *impl.Box) { b.Seed = v[1] })
	}
}

// TestNoServices has the trampolines that are none.
func TestNoServices(t *testing.T) {
	for _, b := range append(otherBoxes(), startBox()) {
		if b.State != 1 || b.Cpu.Regs[4] != 20472 || len(b.Memory.Pages) == 0 {
			continue
		}
		for _, n := range []int{6, 7} {
			got, answer, code := checkAnswer(t, b, n)
			if !likeBox(got, b) || answer != -38 || code != impl.OK {
				t.Errorf("Answer(%s, %d) = %s, %d, %d", toldBox(b), n, toldBox(got), answer, code)
			}
		}
	}
	for _, v := range [][2]int{{0, 0}, {-1, -1}, {1024, 5}} {
		checkService(t, withPQ(startBox(), v[0], v[1]), 6, -38, stays)
		checkService(t, withPQ(startBox(), v[0], v[1]), 7, -38, stays)
	}
}

// TestAnswersInOrder: that the box is not right comes first, then the number, then that it runs no more, then that SvExit has no answer.
func TestAnswersInOrder(t *testing.T) {
	numbers := slices.Concat(farNumbers, []int{-1, -2, 8, 9, 255, 1<<32 + 1})
	for _, b := range wrongBoxes() {
		for _, n := range append(numbers, 0, 1, 2, 3, 4, 5, 6, 7) {
			checkAnswer(t, b, n)
			checkServe(t, b, n)
			if got, answer, code := impl.Answer(b, n); !likeBox(got, impl.Box{}) || answer != 0 || code != impl.ErrBad {
				t.Errorf("Answer(%s, %d) has the code %q", toldBox(b), n, impl.CodeWord(code))
			}
		}
	}
	for _, b := range append(otherBoxes(), startBox()) {
		for _, n := range numbers {
			if got, answer, code := checkAnswer(t, b, n); !likeBox(got, impl.Box{}) || answer != 0 || code != impl.ErrRange {
				t.Errorf("Answer(%s, %d) has the code %q", toldBox(b), n, impl.CodeWord(code))
			}
			if got, code := checkServe(t, b, n); !likeBox(got, impl.Box{}) || code != impl.ErrRange {
				t.Errorf("Serve(%s, %d) has the code %q", toldBox(b), n, impl.CodeWord(code))
			}
		}
		for n := range 8 {
			got, answer, code := checkAnswer(t, b, n)
			served, c := checkServe(t, b, n)
			if b.State != 1 && (!likeBox(got, b) || answer != 0 || code != impl.ErrDone || !likeBox(served, b) || c != impl.ErrDone) {
				t.Errorf("of %s and %d the codes are %q and %q", toldBox(b), n, impl.CodeWord(code), impl.CodeWord(c))
			}
			if b.State == 1 && n == 0 && (!likeBox(got, b) || answer != 0 || code != impl.ErrService) {
				t.Errorf("Answer(%s, 0) = %s, %d, %q", toldBox(b), toldBox(got), answer, impl.CodeWord(code))
			}
		}
	}
}
