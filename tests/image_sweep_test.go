package tests

import (
	"math/rand"
	"slices"
	"testing"

	"loop.example/g00664/impl"
)

// someSize is a number from 0 to room, and often one of its ends or of a page's.
func someSize(random *rand.Rand, room int) int {
	edges := []int{0, 1, room - 1, room, room - 256, 255, 256, 257}
	if n := edges[random.Intn(len(edges))]; random.Intn(2) == 0 && within(n, 0, room) {
		return n
	}
	return random.Intn(room + 1)
}

func someData(random *rand.Rand, size int) string {
	data := make([]byte, size)
	random.Read(data)
	return string(data)
}

// drawnImage is an image that is right: segments from some of the pages on, of which one has code.
func drawnImage(random *rand.Rand) impl.Image {
	places := random.Perm(len(imagePlaces))[:1+random.Intn(4)]
	slices.Sort(places)
	run := random.Intn(len(places))
	var im impl.Image
	for i, place := range places {
		vaddr, end := imagePlaces[place], 3584
		if i+1 < len(places) {
			end = imagePlaces[places[i+1]]
		}
		memsz := max(someSize(random, end-vaddr), 1)
		s := dataSegment(4+2*random.Intn(2), vaddr, memsz, someData(random, someSize(random, memsz)))
		if i == run {
			bundles := (memsz + 31) / 32
			s = dataSegment(5, vaddr, 32*bundles, someData(random, 32*bundles))
			im.Entry = vaddr + 32*random.Intn(bundles)
		}
		im.Segments = append(im.Segments, s)
	}
	return im
}

// TestImagesAreReadBack holds for P10 of many images that are right.
func TestImagesAreReadBack(t *testing.T) {
	random := rand.New(rand.NewSource(10))
	for range 6000 {
		checkImage(t, drawnImage(random), 0, impl.OK)
	}
}

// someNumber is a number beside n, or any other one.
func someNumber(random *rand.Rand, n int) int {
	near := []int{-1, 1, 2, -32, 32, -256, 256, 512, 1 << 16, 1 << 32, -1 << 63, 16384}
	if random.Intn(3) > 0 {
		return n + near[random.Intn(len(near))]
	}
	return slices.Concat(farNumbers, imagePlaces, []int{0, -1, 31, 32, 33, 256, 3583, 3584})[random.Intn(27)]
}

// damagedImage is an image in which one thing or two are other ones; it may be right all the same.
func damagedImage(random *rand.Rand, im impl.Image) impl.Image {
	im.Segments = slices.Clone(im.Segments)
	for range 1 + random.Intn(2) {
		i, k := random.Intn(len(im.Segments)), random.Intn(len(im.Segments))
		s := &im.Segments[i]
		switch random.Intn(9) {
		case 0:
			s.Flags = random.Intn(9) - 1
		case 1:
			s.Vaddr = someNumber(random, s.Vaddr)
		case 2, 3:
			s.Memsz = someNumber(random, s.Memsz)
		case 4:
			s.Data = s.Data[random.Intn(len(s.Data)+1):]
		case 5:
			s.Data += someData(random, 1+random.Intn(300))
		case 6:
			im.Entry = someNumber(random, im.Entry)
		case 7:
			im.Segments[i], im.Segments[k] = im.Segments[k], im.Segments[i]
		case 8:
			im.Segments = append(im.Segments, im.Segments[k], im.Segments[i])[:len(im.Segments)+1+random.Intn(2)]
		}
	}
	return im
}

// TestDamagedImages holds for P10 of many images that are not right, and of some that are: what the tests' own model says of them.
func TestDamagedImages(t *testing.T) {
	random, codes := rand.New(rand.NewSource(11)), map[int]int{}
	for range 12000 {
		im := damagedImage(random, drawnImage(random))
		where, code := imageModel(im)
		checkImage(t, im, where, code)
		codes[code]++
	}
	for _, code := range []int{impl.OK, impl.ErrMany, impl.ErrPerm, impl.ErrSegment, impl.ErrText, impl.ErrEntry} {
		if codes[code] < 200 {
			t.Errorf("the sweep has the code %q %d times", impl.CodeWord(code), codes[code])
		}
	}
}

// TestDrawnPairs: two images are the same just if all their fields are.
func TestDrawnPairs(t *testing.T) {
	random, same := rand.New(rand.NewSource(12)), [2]int{}
	for range 8000 {
		a := drawnImage(random)
		b := damagedImage(random, a)
		_, code := imageModel(b)
		want := code == impl.OK && likeImage(a, b)
		if impl.SameImage(a, b) != want || impl.SameImage(b, a) != want {
			t.Errorf("SameImage(%s, %s) = %v", toldImage(a), toldImage(b), !want)
		}
		if want {
			same[0]++
		} else if code == impl.OK {
			same[1]++
		}
	}
	if same[0] < 100 || same[1] < 100 {
		t.Errorf("of the pairs of right images %d are the same and %d are not", same[0], same[1])
	}
}

// checkTakenText holds for P10 of one text: what ReadElf makes of it is what the tests' own reader makes of it, and, if that is an image, it is right and read back from its own text.
func checkTakenText(t *testing.T, text string) int {
	t.Helper()
	_, code := elfModel(text)
	checkRead(t, text, code)
	im, code := impl.ReadElf(text)
	if impl.ImageOK(im) != (code == impl.OK) {
		t.Errorf("ReadElf of %d bytes has the code %q and is %s", len(text), impl.CodeWord(code), toldImage(im))
	}
	if code == impl.OK {
		checkImage(t, im, 0, impl.OK)
	}
	return code
}

// TestDamagedTexts holds for P10 of texts in which some bytes were changed.
func TestDamagedTexts(t *testing.T) {
	random, codes := rand.New(rand.NewSource(13)), map[int]int{}
	for range 1500 {
		im := drawnImage(random)
		whole, heads := planOf(im).text(), 64+56*len(im.Segments)
		for range 30 {
			text := []byte(whole)
			for range 1 + random.Intn(2) {
				at := random.Intn(heads)
				text[at] = [3]byte{text[at] ^ 1<<random.Intn(8), byte(random.Intn(256)), text[random.Intn(heads)]}[random.Intn(3)]
			}
			switch random.Intn(6) {
			case 0:
				text = text[:random.Intn(len(text)+1)]
			case 1:
				text = append(text, text[:random.Intn(len(text))]...)
			}
			codes[checkTakenText(t, string(text))]++
		}
	}
	for _, code := range []int{impl.OK, impl.ErrNone, impl.ErrMany, impl.ErrEnd, impl.ErrMagic, impl.ErrPerm, impl.ErrSegment, impl.ErrText, impl.ErrEntry} {
		if codes[code] < 50 {
			t.Errorf("the sweep has the code %q %d times", impl.CodeWord(code), codes[code])
		}
	}
}

// TestEachByteOfTexts changes each byte of the heads of some images into each other one.
func TestEachByteOfTexts(t *testing.T) {
	for _, v := range toldTexts()[:3] {
		whole := planOf(v.image).text()
		for at := range 64 + 56*len(v.image.Segments) {
			for b := range 256 {
				checkTakenText(t, whole[:at]+string([]byte{byte(b)})+whole[at+1:])
			}
		}
	}
}

// TestTextsOfNoImage has texts that are no images.
func TestTextsOfNoImage(t *testing.T) {
	for _, text := range slices.Concat(anyTexts(), validateTexts()) {
		if code := checkTakenText(t, text); code == impl.OK {
			t.Errorf("%.60q is taken", text)
		}
	}
}
