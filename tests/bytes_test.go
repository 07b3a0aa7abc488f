package tests

import (
	"encoding/hex"
	"math"
	"math/big"
	"math/rand"
	"strings"
	"testing"

	"loop.example/g00664/impl"
)

var sizes = []int{1, 2, 4, 8}

var noSizes = []int{0, 3, 5, 6, 7, 9, 10, 16, 32, 64, -1, -2, -4, -8, 257, 1<<32 + 1, 1<<32 + 8, math.MinInt, math.MinInt + 8, math.MaxInt}

// edgeNumbers are numbers at the ends of all sizes, then some that follow no rule.
func edgeNumbers() []int {
	list := []int{0, 1, 2, 3, 7, 10, 15, 16, math.MaxInt, math.MaxInt - 1, math.MinInt, math.MinInt + 1}
	for _, bit := range []int{7, 8, 15, 16, 31, 32, 33, 47, 62, 63} {
		v := 1 << bit
		list = append(list, v, v-1, v+1, -v, -v-1, -v+1)
	}
	source := rand.New(rand.NewSource(1))
	for range 20 {
		list = append(list, int(source.Uint64()))
	}
	return list
}

func TestSignOfAndZeroOf(t *testing.T) {
	for _, v := range []struct{ v, size, sign, zero int }{
		{0, 1, 0, 0}, {127, 1, 127, 127}, {128, 1, -128, 128}, {255, 1, -1, 255}, {256, 1, 0, 0}, {-128, 1, -128, 128}, {-129, 1, 127, 127}, {0x1234, 1, 0x34, 0x34},
		{32767, 2, 32767, 32767}, {32768, 2, -32768, 32768}, {65535, 2, -1, 65535}, {65536, 2, 0, 0}, {-32768, 2, -32768, 32768}, {-32769, 2, 32767, 32767}, {128, 2, 128, 128},
		{2147483647, 4, 2147483647, 2147483647}, {2147483648, 4, -2147483648, 2147483648}, {4294967295, 4, -1, 4294967295}, {4294967296, 4, 0, 0}, {-2147483648, 4, -2147483648, 2147483648}, {-2147483649, 4, 2147483647, 2147483647}, {32768, 4, 32768, 32768},
		{math.MaxInt, 8, math.MaxInt, math.MaxInt}, {math.MinInt, 8, math.MinInt, math.MinInt}, {-1, 8, -1, -1}, {2147483648, 8, 2147483648, 2147483648}, {4294967296, 8, 4294967296, 4294967296},
		{math.MaxInt, 1, -1, 255}, {math.MaxInt, 2, -1, 65535}, {math.MaxInt, 4, -1, 4294967295},
		{math.MinInt, 1, 0, 0}, {math.MinInt, 2, 0, 0}, {math.MinInt, 4, 0, 0},
	} {
		if n, code := impl.SignOf(v.v, v.size); n != v.sign || code != impl.OK {
			t.Errorf("SignOf(%d, %d) = %d, %d, want %d", v.v, v.size, n, code, v.sign)
		}
		if n, code := impl.ZeroOf(v.v, v.size); n != v.zero || code != impl.OK {
			t.Errorf("ZeroOf(%d, %d) = %d, %d, want %d", v.v, v.size, n, code, v.zero)
		}
	}
}

func TestSignAndZeroAgree(t *testing.T) {
	for _, v := range edgeNumbers() {
		for _, size := range sizes {
			sign, _ := impl.SignOf(v, size)
			zero, _ := impl.ZeroOf(v, size)
			if back, _ := impl.ZeroOf(sign, size); back != zero {
				t.Errorf("ZeroOf(SignOf(%d, %d)) = %d, want %d", v, size, back, zero)
			}
			if back, _ := impl.SignOf(zero, size); back != sign {
				t.Errorf("SignOf(ZeroOf(%d, %d)) = %d, want %d", v, size, back, sign)
			}
			if size == 8 && (sign != v || zero != v) {
				t.Errorf("of 8 bytes %d is %d and %d", v, sign, zero)
			}
		}
	}
}

func TestPutLittle(t *testing.T) {
	for _, v := range []struct {
		v, size int
		want    string
	}{
		{0x12, 1, "\x12"}, {0x1234, 1, "\x34"}, {-1, 1, "\xff"},
		{0x1234, 2, "\x34\x12"}, {0x12, 2, "\x12\x00"}, {-2, 2, "\xfe\xff"},
		{0x12345678, 4, "\x78\x56\x34\x12"}, {-2, 4, "\xfe\xff\xff\xff"},
		{0x0102030405060708, 8, "\x08\x07\x06\x05\x04\x03\x02\x01"},
		{math.MinInt, 8, "\x00\x00\x00\x00\x00\x00\x00\x80"}, {math.MaxInt, 8, "\xff\xff\xff\xff\xff\xff\xff\x7f"}, {-1, 8, "\xff\xff\xff\xff\xff\xff\xff\xff"},
	} {
		if s, code := impl.PutLittle(v.v, v.size); s != v.want || code != impl.OK {
			t.Errorf("PutLittle(%d, %d) = %x, %d, want %x", v.v, v.size, s, code, v.want)
		}
	}
}

func TestTakeLittle(t *testing.T) {
	const text = "\x01\x80\xff\x7f\x00\x00\x00\x00\x00\x80\xff\xff\xff\xff\xff\xff\xff\xff"
	for _, v := range []struct {
		text           string
		at, size, want int
	}{
		{text, 0, 1, 1}, {text, 1, 1, 128}, {text, 2, 1, 255}, {text, 17, 1, 255},
		{text, 0, 2, 0x8001}, {text, 2, 2, 0x7fff}, {text, 16, 2, 65535},
		{text, 0, 4, 0x7fff8001}, {text, 10, 4, 4294967295}, {text, 14, 4, 4294967295},
		{text, 0, 8, 0x7fff8001}, {text, 10, 8, -1},
		{"\x00\x00\x00\x00\x00\x00\x00\x80", 0, 8, math.MinInt}, {"\xff\xff\xff\xff\xff\xff\xff\x7f", 0, 8, math.MaxInt},
	} {
		if n, code := impl.TakeLittle(v.text, v.at, v.size); n != v.want || code != impl.OK {
			t.Errorf("TakeLittle(%x, %d, %d) = %d, %d, want %d", v.text, v.at, v.size, n, code, v.want)
		}
	}
}

// TestNumbersAreReadBack holds for P2: what PutLittle lays down, TakeLittle takes up, wherever it stands.
func TestNumbersAreReadBack(t *testing.T) {
	for _, v := range edgeNumbers() {
		for _, size := range sizes {
			s, code := impl.PutLittle(v, size)
			if len(s) != size || code != impl.OK {
				t.Fatalf("PutLittle(%d, %d) = %x, %d", v, size, s, code)
			}
			want, _ := impl.ZeroOf(v, size)
			for _, place := range []struct {
				text string
				at   int
			}{{s, 0}, {s + "\xaa\xbb", 0}, {"\xcc\xdd\xee" + s, 3}, {"\xff\xff" + s + "\xff", 2}} {
				if n, code := impl.TakeLittle(place.text, place.at, size); n != want || code != impl.OK {
					t.Errorf("TakeLittle(%x, %d, %d) = %d, %d, want %d", place.text, place.at, size, n, code, want)
				}
			}
		}
	}
}

// TestBytesOfNumbersAreReadBack is the other way: the number of some bytes has just these bytes.
func TestBytesOfNumbersAreReadBack(t *testing.T) {
	source := rand.New(rand.NewSource(2))
	text := make([]byte, 64)
	source.Read(text)
	for _, size := range sizes {
		for at := 0; at+size <= len(text); at++ {
			n, code := impl.TakeLittle(string(text), at, size)
			if code != impl.OK {
				t.Fatal(at, size, code)
			}
			if s, code := impl.PutLittle(n, size); s != string(text[at:at+size]) || code != impl.OK {
				t.Errorf("PutLittle(%d, %d) = %x, %d, want %x", n, size, s, code, text[at:at+size])
			}
		}
	}
}

func TestSizesThatAreNone(t *testing.T) {
	for _, size := range noSizes {
		for _, v := range []int{0, 1, -1, math.MinInt, math.MaxInt} {
			if n, code := impl.SignOf(v, size); n != 0 || code != impl.ErrRange {
				t.Errorf("SignOf(%d, %d) = %d, %d", v, size, n, code)
			}
			if n, code := impl.ZeroOf(v, size); n != 0 || code != impl.ErrRange {
				t.Errorf("ZeroOf(%d, %d) = %d, %d", v, size, n, code)
			}
			if s, code := impl.PutLittle(v, size); s != "" || code != impl.ErrRange {
				t.Errorf("PutLittle(%d, %d) = %x, %d", v, size, s, code)
			}
		}
		for _, at := range []int{0, 1, 16, 17, -1, math.MinInt, math.MaxInt} {
			if n, code := impl.TakeLittle("0123456789abcdef", at, size); n != 0 || code != impl.ErrRange {
				t.Errorf("TakeLittle at %d of size %d = %d, %d, want ErrRange ahead of ErrEnd", at, size, n, code)
			}
		}
	}
}

func TestBytesThatDoNotLieInTheText(t *testing.T) {
	for _, size := range sizes {
		for length := range 10 {
			text := strings.Repeat("\xa5", length)
			for _, at := range []int{-9, -8, -1, 0, 1, 2, 7, 8, 9, 10, 1 << 32, math.MinInt, math.MinInt + 1, math.MinInt + 8, math.MaxInt - 8, math.MaxInt - 7, math.MaxInt - 1, math.MaxInt} {
				n, code := impl.TakeLittle(text, at, size)
				there := at >= 0 && at <= 10 && at+size <= length
				if there && (n == 0 || code != impl.OK) || !there && (n != 0 || code != impl.ErrEnd) {
					t.Errorf("TakeLittle of %d bytes at %d of size %d = %d, %d", length, at, size, n, code)
				}
			}
		}
	}
}

func TestLongTexts(t *testing.T) {
	full := strings.Repeat("a", impl.MaxText)
	if n, code := impl.TakeLittle(full, impl.MaxText-8, 8); n != 0x6161616161616161 || code != impl.OK {
		t.Error("TakeLittle of MaxText bytes:", n, code)
	}
	if n, code := impl.TakeLittle(full, impl.MaxText-7, 8); n != 0 || code != impl.ErrEnd {
		t.Error("TakeLittle behind MaxText bytes:", n, code)
	}
	for _, v := range []struct{ at, size int }{{0, 1}, {0, 8}, {0, 3}, {-1, 1}, {impl.MaxText + 1, 1}, {math.MaxInt, 0}} {
		if n, code := impl.TakeLittle(full+"a", v.at, v.size); n != 0 || code != impl.ErrLong {
			t.Errorf("TakeLittle of MaxText + 1 bytes at %d of size %d = %d, %d", v.at, v.size, n, code)
		}
	}
	if s, code := impl.BytesOf(full); s != strings.Repeat("\xaa", impl.MaxText/2) || code != impl.OK {
		t.Error("BytesOf of MaxText digits:", len(s), code)
	}
	for _, more := range []string{"a", "aa", "g", "ag"} {
		if s, code := impl.BytesOf(full + more); s != "" || code != impl.ErrLong {
			t.Errorf("BytesOf of MaxText digits and %q: %d bytes, %d", more, len(s), code)
		}
	}
	half := strings.Repeat("\xaa", impl.MaxText/2)
	if impl.HexOf(half) != full {
		t.Error("HexOf of half of MaxText bytes:", len(impl.HexOf(half)))
	}
	for _, more := range []string{"\xaa", half, half + "\xaa"} {
		if s := impl.HexOf(half + more); s != "" {
			t.Errorf("HexOf of %d bytes has %d digits", len(half+more), len(s))
		}
	}
}

func TestHexIsReadBack(t *testing.T) {
	all := make([]byte, 256)
	for b := range all {
		all[b] = byte(b)
		one := string(all[b : b+1])
		if got := impl.HexOf(one); got != hex.EncodeToString(all[b:b+1]) {
			t.Errorf("HexOf(%x) = %q", one, got)
		}
	}
	for _, s := range []string{"", "\x00", "\xff\x01", "\x0a\xa0", "text", string(all)} {
		digits := impl.HexOf(s)
		if digits != hex.EncodeToString([]byte(s)) {
			t.Errorf("HexOf(%x) = %q", s, digits)
		}
		if back, code := impl.BytesOf(digits); back != s || code != impl.OK {
			t.Errorf("BytesOf(%q) = %x, %d", digits, back, code)
		}
	}
}

func TestDigitsOfBytes(t *testing.T) {
	const digits = "0123456789abcdef"
	for b := range 256 {
		one := string([]byte{byte(b)})
		value := strings.Index(digits, one)
		upper, upperCode := impl.BytesOf(one + "5")
		lower, lowerCode := impl.BytesOf("5" + one)
		if value < 0 {
			if upper != "" || upperCode != impl.ErrForm || lower != "" || lowerCode != impl.ErrForm {
				t.Errorf("BytesOf takes byte %d: %x %d, %x %d", b, upper, upperCode, lower, lowerCode)
			}
			continue
		}
		if upper != string([]byte{byte(16*value + 5)}) || upperCode != impl.OK || lower != string([]byte{byte(80 + value)}) || lowerCode != impl.OK {
			t.Errorf("BytesOf of digit %q: %x %d, %x %d", one, upper, upperCode, lower, lowerCode)
		}
	}
	for _, s := range []string{"0", "000", "00f", "0g", "g0", "FF", "fF", "0x00", " 00", "00 ", "0 0", "00\n", "000g", "-1", "\xff\xff", "\u00e900"} {
		if got, code := impl.BytesOf(s); got != "" || code != impl.ErrForm {
			t.Errorf("BytesOf(%q) = %x, %d", s, got, code)
		}
	}
}

func TestBelowU(t *testing.T) {
	for _, v := range []struct {
		a, b int
		want bool
	}{
		{0, 0, false}, {0, 1, true}, {1, 0, false}, {1, -1, true}, {-1, 1, false}, {-1, -1, false}, {-2, -1, true}, {-1, -2, false},
		{math.MaxInt, math.MinInt, true}, {math.MinInt, math.MaxInt, false}, {0, math.MinInt, true}, {math.MinInt, 0, false}, {math.MinInt, -1, true},
	} {
		if got := impl.BelowU(v.a, v.b); got != v.want {
			t.Errorf("BelowU(%d, %d) = %v", v.a, v.b, got)
		}
	}
	for _, a := range edgeNumbers() {
		for _, b := range edgeNumbers() {
			if impl.BelowU(a, b) != (bare(a).Cmp(bare(b)) < 0) {
				t.Errorf("BelowU(%d, %d)", a, b)
			}
		}
	}
}

// bare is v read as a number without a sign.
func bare(v int) *big.Int { return new(big.Int).SetUint64(uint64(v)) }

// wide is the number without a sign whose halves are high and low.
func wide(high, low int) *big.Int {
	n := new(big.Int).Lsh(bare(high), 64)
	return n.Add(n, bare(low))
}

func TestMulWide(t *testing.T) {
	for _, v := range []struct{ a, b, high, low int }{
		{0, 0, 0, 0}, {3, 5, 0, 15}, {-1, 1, 0, -1}, {-1, 2, 1, -2}, {-1, -1, -2, 1}, {1 << 32, 1 << 32, 1, 0},
		{math.MinInt, 2, 1, 0}, {math.MinInt, math.MinInt, 1 << 62, 0}, {math.MaxInt, math.MaxInt, 1<<62 - 1, 1},
	} {
		if high, low := impl.MulWide(v.a, v.b); high != v.high || low != v.low {
			t.Errorf("MulWide(%d, %d) = %d, %d, want %d, %d", v.a, v.b, high, low, v.high, v.low)
		}
	}
	for _, a := range edgeNumbers() {
		for _, b := range edgeNumbers() {
			high, low := impl.MulWide(a, b)
			if wide(high, low).Cmp(new(big.Int).Mul(bare(a), bare(b))) != 0 {
				t.Errorf("MulWide(%d, %d) = %d, %d", a, b, high, low)
			}
		}
	}
}

func TestDivideWide(t *testing.T) {
	for _, v := range []struct{ high, low, d, quotient, rest, code int }{
		{0, 0, 1, 0, 0, impl.OK}, {0, 7, 2, 3, 1, impl.OK}, {0, 7, 8, 0, 7, impl.OK}, {0, -1, 1, -1, 0, impl.OK}, {0, -1, -1, 1, 0, impl.OK}, {0, -2, -1, 0, -2, impl.OK},
		{1, 0, 2, math.MinInt, 0, impl.OK}, {-2, -1, -1, -1, -2, impl.OK}, {-2, 1, -1, -1, 0, impl.OK}, {0, math.MinInt, math.MinInt, 1, 0, impl.OK},
		{0, 0, 0, 0, 0, impl.ErrDivide}, {0, 5, 0, 0, 0, impl.ErrDivide}, {-1, -1, 0, 0, 0, impl.ErrDivide},
		{1, 0, 1, 0, 0, impl.ErrDivide}, {2, 0, 2, 0, 0, impl.ErrDivide}, {3, 9, 2, 0, 0, impl.ErrDivide}, {-1, 0, -1, 0, 0, impl.ErrDivide}, {-1, 0, 5, 0, 0, impl.ErrDivide}, {math.MinInt, 0, math.MaxInt, 0, 0, impl.ErrDivide},
	} {
		if q, r, code := impl.DivideWide(v.high, v.low, v.d); q != v.quotient || r != v.rest || code != v.code {
			t.Errorf("DivideWide(%d, %d, %d) = %d, %d, %d", v.high, v.low, v.d, q, r, code)
		}
	}
}

// TestQuotientTimesDivisor holds for P2: quotient times divisor and rest are what was divided, and the rest is below the divisor.
func TestQuotientTimesDivisor(t *testing.T) {
	numbers := edgeNumbers()
	for _, high := range numbers {
		for _, low := range numbers {
			for _, d := range numbers {
				q, r, code := impl.DivideWide(high, low, d)
				if bare(d).Cmp(bare(high)) <= 0 {
					if q != 0 || r != 0 || code != impl.ErrDivide {
						t.Fatalf("DivideWide(%d, %d, %d) = %d, %d, %d, want ErrDivide", high, low, d, q, r, code)
					}
					continue
				}
				back := new(big.Int).Mul(bare(q), bare(d))
				back.Add(back, bare(r))
				if code != impl.OK || back.Cmp(wide(high, low)) != 0 || bare(r).Cmp(bare(d)) >= 0 {
					t.Fatalf("DivideWide(%d, %d, %d) = %d, %d, %d", high, low, d, q, r, code)
				}
			}
		}
	}
}

// TestProductsAreDividedBack ties both wide calls: a product divided by one of its factors is the other one.
func TestProductsAreDividedBack(t *testing.T) {
	for _, a := range edgeNumbers() {
		for _, b := range edgeNumbers() {
			if b == 0 {
				continue
			}
			high, low := impl.MulWide(a, b)
			if q, r, code := impl.DivideWide(high, low, b); q != a || r != 0 || code != impl.OK {
				t.Errorf("%d times %d, divided: %d, %d, %d", a, b, q, r, code)
			}
		}
	}
}
