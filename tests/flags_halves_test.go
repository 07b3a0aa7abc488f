package tests

import (
	"math"
	"math/big"
	"testing"

	"loop.example/g00664/impl"
)

func TestMultiply(t *testing.T) {
	for _, v := range []struct {
		op, size, a, b int
		flags          string
		low, high      int
		then           string
	}{
		{impl.OpMul, 1, 0, 255, "CO", 0, 0, ""}, {impl.OpMul, 1, 15, 17, "CPZSO", 255, 0, "PZS"}, {impl.OpMul, 1, 16, 16, "", 0, 1, "CO"}, {impl.OpMul, 1, 255, 255, "PZS", 1, 254, "CPZSO"}, {impl.OpMul, 1, 128, 2, "", 0, 1, "CO"}, {impl.OpMul, 1, 255, 1, "", 255, 0, ""},
		{impl.OpMul, 2, 257, 255, "C", 65535, 0, ""}, {impl.OpMul, 2, 256, 256, "", 0, 1, "CO"}, {impl.OpMul, 2, 65535, 65535, "", 1, 65534, "CO"}, {impl.OpMul, 4, 65537, 65535, "O", 4294967295, 0, ""}, {impl.OpMul, 4, 65536, 65536, "", 0, 1, "CO"}, {impl.OpMul, 4, -1, -1, "", 1, 4294967294, "CO"},
		{impl.OpMul, 8, 4294967297, 4294967295, "CO", -1, 0, ""}, {impl.OpMul, 8, 1 << 32, 1 << 32, "", 0, 1, "CO"}, {impl.OpMul, 8, math.MinInt, math.MinInt, "", 0, 1 << 62, "CO"}, {impl.OpMul, 8, math.MinInt, 1, "C", math.MinInt, 0, ""}, {impl.OpMul, 8, -1, 2, "", -2, 1, "CO"}, {impl.OpMul, 8, math.MinInt, 2, "", 0, 1, "CO"},
		// Both signs of each number, and the upper half beside the sign of the lower one.
		{impl.OpImul1, 1, 10, 12, "CO", 120, 0, ""}, {impl.OpImul1, 1, -10, 12, "CO", 136, 255, ""}, {impl.OpImul1, 1, 10, -12, "CO", 136, 255, ""}, {impl.OpImul1, 1, -10, -12, "CO", 120, 0, ""}, {impl.OpImul1, 1, 127, 1, "", 127, 0, ""}, {impl.OpImul1, 1, 16, 8, "", 128, 0, "CO"}, {impl.OpImul1, 1, -16, 8, "", 128, 255, ""}, {impl.OpImul1, 1, 43, -3, "", 127, 255, "CO"}, {impl.OpImul1, 1, -128, -1, "", 128, 0, "CO"}, {impl.OpImul1, 1, -128, 1, "", 128, 255, ""}, {impl.OpImul1, 1, -128, -128, "", 0, 64, "CO"}, {impl.OpImul1, 1, -128, 2, "", 0, 255, "CO"}, {impl.OpImul1, 1, -128, 127, "PZS", 128, 192, "CPZSO"}, {impl.OpImul1, 1, 0, -128, "CPZSO", 0, 0, "PZS"},
		{impl.OpImul1, 2, 256, 128, "", 32768, 0, "CO"}, {impl.OpImul1, 2, -256, 128, "C", 32768, 65535, ""}, {impl.OpImul1, 2, -181, 181, "", 32775, 65535, ""}, {impl.OpImul1, 4, 65536, 32768, "", 2147483648, 0, "CO"}, {impl.OpImul1, 4, -65536, 32768, "O", 2147483648, 4294967295, ""}, {impl.OpImul1, 4, -2147483648, -2147483648, "", 0, 1073741824, "CO"},
		{impl.OpImul1, 8, -1, -1, "CO", 1, 0, ""}, {impl.OpImul1, 8, -1, 1, "CO", -1, -1, ""}, {impl.OpImul1, 8, math.MinInt, -1, "", math.MinInt, 0, "CO"}, {impl.OpImul1, 8, math.MinInt, 1, "CO", math.MinInt, -1, ""}, {impl.OpImul1, 8, math.MinInt, math.MinInt, "", 0, 1 << 62, "CO"}, {impl.OpImul1, 8, 1 << 62, 2, "", math.MinInt, 0, "CO"}, {impl.OpImul1, 8, -1 << 62, 2, "", math.MinInt, -1, ""}, {impl.OpImul1, 8, math.MaxInt, math.MaxInt, "", 1, 1<<62 - 1, "CO"}, {impl.OpImul1, 8, math.MinInt, 2, "", 0, -1, "CO"},
		{impl.OpImul, 2, -3, 5, "CO", 65521, 65535, ""}, {impl.OpImul, 4, 46341, 46341, "", 2147488281, 0, "CO"}, {impl.OpImul, 4, 46340, 46340, "CO", 2147395600, 0, ""}, {impl.OpImul, 8, 3037000500, 3037000500, "", -9223372036709301616, 0, "CO"}, {impl.OpImul, 8, -4, 5, "CO", -20, -1, ""}, {impl.OpImul, 1, -2, 64, "CO", 128, 255, ""},
		// Only the lowest bytes count.
		{impl.OpMul, 1, 258, -253, "CO", 6, 0, ""}, {impl.OpImul1, 1, 255, 511, "CO", 1, 0, ""}, {impl.OpMul, 2, -65535, 65538, "", 2, 0, ""}, {impl.OpImul, 4, 4294967295, 1<<40 + 7, "", 4294967289, 4294967295, ""}, {impl.OpMul, 4, math.MinInt, math.MaxInt, "CO", 0, 0, ""},
	} {
		if low, high, flags, code := impl.Multiply(v.op, v.size, v.a, v.b, fl(v.flags)); low != v.low || high != v.high || flags != fl(v.then) || code != impl.OK {
			t.Errorf("Multiply(%s, %d, %d, %d, %q) = %d, %d, %d, %d, want %d, %d, %q", impl.OpName(v.op), v.size, v.a, v.b, v.flags, low, high, flags, code, v.low, v.high, v.then)
		}
	}
}

func TestMultiplyOfAll(t *testing.T) {
	for _, size := range sizes {
		for _, op := range timesOps {
			for _, a := range firstsOf(size) {
				for _, b := range edgesOf(size) {
					for _, before := range []int{0, allOn} {
						wantLow, wantHigh, then := timesModel(op, size, a, b, before)
						if low, high, flags, code := impl.Multiply(op, size, a, b, before); low != wantLow || high != wantHigh || flags != then || code != impl.OK {
							t.Fatalf("Multiply(%s, %d, %d, %d, %d) = %d, %d, %d, %d, want %d, %d, %d", impl.OpName(op), size, a, b, before, low, high, flags, code, wantLow, wantHigh, then)
						}
					}
				}
			}
		}
	}
}

type divideCase struct{ op, size, high, low, d, quotient, rest, code int }

func checkDivide(t *testing.T, cases []divideCase) {
	t.Helper()
	for _, v := range cases {
		if quotient, rest, code := impl.Divide(v.op, v.size, v.high, v.low, v.d); quotient != v.quotient || rest != v.rest || code != v.code {
			t.Errorf("Divide(%s, %d, %d, %d, %d) = %d, %d, %d, want %d, %d, %d", impl.OpName(v.op), v.size, v.high, v.low, v.d, quotient, rest, code, v.quotient, v.rest, v.code)
		}
	}
}

func TestDiv(t *testing.T) {
	const none = impl.ErrDivide
	checkDivide(t, []divideCase{
		{impl.OpDiv, 1, 0, 0, 1, 0, 0, 0}, {impl.OpDiv, 1, 0, 7, 2, 3, 1, 0}, {impl.OpDiv, 1, 0, 255, 1, 255, 0, 0}, {impl.OpDiv, 1, 1, 0, 1, 0, 0, none}, {impl.OpDiv, 1, 1, 0, 2, 128, 0, 0}, {impl.OpDiv, 1, 254, 255, 255, 255, 254, 0}, {impl.OpDiv, 1, 255, 0, 255, 0, 0, none}, {impl.OpDiv, 1, 127, 255, 128, 255, 127, 0}, {impl.OpDiv, 1, 128, 0, 128, 0, 0, none}, {impl.OpDiv, 1, 0, 5, 200, 0, 5, 0},
		{impl.OpDiv, 2, 0, 65535, 1, 65535, 0, 0}, {impl.OpDiv, 2, 1, 0, 1, 0, 0, none}, {impl.OpDiv, 2, 65534, 65535, 65535, 65535, 65534, 0}, {impl.OpDiv, 2, 65535, 0, 65535, 0, 0, none}, {impl.OpDiv, 4, 1, 0, 2, 2147483648, 0, 0}, {impl.OpDiv, 4, 4294967294, 4294967295, 4294967295, 4294967295, 4294967294, 0}, {impl.OpDiv, 4, 4294967295, 0, 4294967295, 0, 0, none}, {impl.OpDiv, 4, 7, 0, 7, 0, 0, none},
		{impl.OpDiv, 8, 0, -1, 1, -1, 0, 0}, {impl.OpDiv, 8, 1, 0, 1, 0, 0, none}, {impl.OpDiv, 8, 1, 0, 2, math.MinInt, 0, 0}, {impl.OpDiv, 8, -2, -1, -1, -1, -2, 0}, {impl.OpDiv, 8, -1, 0, -1, 0, 0, none}, {impl.OpDiv, 8, math.MaxInt, -1, math.MinInt, -1, math.MaxInt, 0}, {impl.OpDiv, 8, math.MinInt, 0, math.MinInt, 0, 0, none}, {impl.OpDiv, 8, math.MinInt, 0, -1, math.MinInt, math.MinInt, 0}, {impl.OpDiv, 8, 0, -1, math.MinInt, 1, math.MaxInt, 0},
		{impl.OpDiv, 1, 0, 0, 0, 0, 0, none}, {impl.OpDiv, 2, 0, 5, 0, 0, 0, none}, {impl.OpDiv, 4, 1, 5, 0, 0, 0, none}, {impl.OpDiv, 8, 0, 5, 0, 0, 0, none}, {impl.OpDiv, 8, 0, 0, 0, 0, 0, none},
		// Only the lowest bytes count: 256 is nought as a byte.
		{impl.OpDiv, 1, 0, 5, 256, 0, 0, none}, {impl.OpDiv, 1, 256, 261, 257, 5, 0, 0}, {impl.OpDiv, 1, -256, -1, -254, 127, 1, 0}, {impl.OpDiv, 2, 1 << 20, -1, 65538, 32767, 1, 0}, {impl.OpDiv, 4, -4294967296, -1, 4294967298, 2147483647, 1, 0}, {impl.OpDiv, 4, 0, 5, math.MinInt, 0, 0, none},
	})
}

func TestIdiv(t *testing.T) {
	const none = impl.ErrDivide
	checkDivide(t, []divideCase{
		// The quotient is rounded towards 0, and the rest has the sign of what was divided.
		{impl.OpIdiv, 1, 0, 7, 2, 3, 1, 0}, {impl.OpIdiv, 1, 255, 249, 2, 253, 255, 0}, {impl.OpIdiv, 1, 0, 7, 254, 253, 1, 0}, {impl.OpIdiv, 1, 255, 249, 254, 3, 255, 0}, {impl.OpIdiv, 2, -1, -7, 2, 65533, 65535, 0}, {impl.OpIdiv, 4, -1, -7, -2, 3, 4294967295, 0}, {impl.OpIdiv, 8, 0, 7, -2, -3, 1, 0}, {impl.OpIdiv, 8, -1, -7, 2, -3, -1, 0}, {impl.OpIdiv, 8, -1, -7, -2, 3, -1, 0}, {impl.OpIdiv, 8, -1, -5, 9, 0, -5, 0}, {impl.OpIdiv, 8, -1, -6, 3, -2, 0, 0},
		{impl.OpIdiv, 1, 0, 127, 1, 127, 0, 0}, {impl.OpIdiv, 1, 0, 128, 1, 0, 0, none}, {impl.OpIdiv, 1, 255, 128, 1, 128, 0, 0}, {impl.OpIdiv, 1, 255, 127, 1, 0, 0, none}, {impl.OpIdiv, 1, 255, 128, 255, 0, 0, none}, {impl.OpIdiv, 1, 255, 129, 255, 127, 0, 0}, {impl.OpIdiv, 1, 0, 128, 255, 128, 0, 0}, {impl.OpIdiv, 1, 0, 129, 255, 0, 0, none}, {impl.OpIdiv, 1, 128, 0, 128, 0, 0, none}, {impl.OpIdiv, 1, 63, 255, 128, 129, 127, 0}, {impl.OpIdiv, 1, 64, 0, 128, 128, 0, 0}, {impl.OpIdiv, 1, 64, 127, 128, 128, 127, 0}, {impl.OpIdiv, 1, 64, 128, 128, 0, 0, none}, {impl.OpIdiv, 1, 192, 0, 128, 0, 0, none}, {impl.OpIdiv, 1, 192, 1, 128, 127, 129, 0},
		{impl.OpIdiv, 2, -1, -32768, -1, 0, 0, none}, {impl.OpIdiv, 2, 0, 32767, -1, 32769, 0, 0}, {impl.OpIdiv, 2, 0, 32768, -1, 32768, 0, 0}, {impl.OpIdiv, 2, 0, 32768, 1, 0, 0, none}, {impl.OpIdiv, 4, -1, -2147483648, -1, 0, 0, none}, {impl.OpIdiv, 4, -1, -2147483648, 1, 2147483648, 0, 0}, {impl.OpIdiv, 4, 0, 2147483648, 1, 0, 0, none}, {impl.OpIdiv, 4, 0, 2147483648, -1, 2147483648, 0, 0}, {impl.OpIdiv, 4, -2147483648, 0, -1, 0, 0, none},
		{impl.OpIdiv, 8, -1, math.MinInt, -1, 0, 0, none}, {impl.OpIdiv, 8, -1, math.MinInt, 1, math.MinInt, 0, 0}, {impl.OpIdiv, 8, 0, math.MinInt, 1, 0, 0, none}, {impl.OpIdiv, 8, 0, math.MinInt, -1, math.MinInt, 0, 0}, {impl.OpIdiv, 8, 0, math.MinInt + 1, -1, 0, 0, none}, {impl.OpIdiv, 8, 0, math.MaxInt, -1, -math.MaxInt, 0, 0}, {impl.OpIdiv, 8, -1, math.MaxInt, 1, 0, 0, none}, {impl.OpIdiv, 8, 0, -1, 2, math.MaxInt, 1, 0}, {impl.OpIdiv, 8, 1, 0, 2, 0, 0, none}, {impl.OpIdiv, 8, -1, 0, 2, math.MinInt, 0, 0}, {impl.OpIdiv, 8, -1, 0, -2, 0, 0, none}, {impl.OpIdiv, 8, 0, -1, 1, 0, 0, none}, {impl.OpIdiv, 8, 1, 1, -2, math.MinInt, 1, 0}, {impl.OpIdiv, 8, 1, 2, -2, 0, 0, none},
		{impl.OpIdiv, 8, 1 << 62, 0, math.MinInt, math.MinInt, 0, 0}, {impl.OpIdiv, 8, -1 << 62, 0, math.MinInt, 0, 0, none}, {impl.OpIdiv, 8, -1 << 62, 1, math.MinInt, math.MaxInt, math.MinInt + 1, 0}, {impl.OpIdiv, 8, math.MinInt, 0, math.MinInt, 0, 0, none}, {impl.OpIdiv, 8, math.MinInt, 0, -1, 0, 0, none}, {impl.OpIdiv, 8, math.MinInt, 0, 1, 0, 0, none}, {impl.OpIdiv, 8, math.MaxInt, -1, math.MaxInt, 0, 0, none},
		{impl.OpIdiv, 1, 0, 0, 0, 0, 0, none}, {impl.OpIdiv, 2, -1, -5, 0, 0, 0, none}, {impl.OpIdiv, 4, 0, 5, 0, 0, 0, none}, {impl.OpIdiv, 8, -1, -1, 0, 0, 0, none}, {impl.OpIdiv, 8, 0, 0, 0, 0, 0, none},
		// Only the lowest bytes count, and the upper half has the sign.
		{impl.OpIdiv, 1, 0, -128, -1, 128, 0, 0}, {impl.OpIdiv, 1, 0x1ff, 0x1f9, 0x102, 253, 255, 0}, {impl.OpIdiv, 1, 256, 7, 512, 0, 0, none}, {impl.OpIdiv, 2, 65535, 65529, 65538, 65533, 65535, 0}, {impl.OpIdiv, 4, 1 << 32, 7, 1<<32 + 2, 3, 1, 0}, {impl.OpIdiv, 4, math.MinInt, -2147483648, math.MaxInt, 2147483648, 0, 0},
	})
}

// halvesOf are the halves of numbers of twice a size: some of edgesOf, and those about d times what a quotient may be at most.
func halvesOf(size, d int) [][2]int {
	var list [][2]int
	for _, high := range edgesOf(size)[:30] {
		for _, low := range []int{0, 1, -1, 1 << (8*size - 1)} {
			list = append(list, [2]int{high, low})
		}
	}
	for _, by := range []*big.Int{plainOf(d, size), signedOf(d, size)} {
		for _, most := range []*big.Int{powerOf(8 * size), powerOf(8*size - 1), new(big.Int).Neg(powerOf(8*size - 1))} {
			for step := int64(-2); step <= 2; step++ {
				product := new(big.Int).Mul(by, new(big.Int).Add(most, big.NewInt(step/2)))
				product.Add(product, big.NewInt(step%2))
				list = append(list, [2]int{lowestOf(new(big.Int).Rsh(product, uint(8*size)), size), lowestOf(product, size)})
			}
		}
	}
	return list
}

func TestDivideOfAll(t *testing.T) {
	for _, size := range sizes {
		for _, op := range divideOps {
			fits, no := 0, 0
			for _, d := range edgesOf(size) {
				for _, half := range halvesOf(size, d) {
					wantQuotient, wantRest, want := divideModel(op, size, half[0], half[1], d)
					if quotient, rest, code := impl.Divide(op, size, half[0], half[1], d); quotient != wantQuotient || rest != wantRest || code != want {
						t.Fatalf("Divide(%s, %d, %d, %d, %d) = %d, %d, %d, want %d, %d, %d", impl.OpName(op), size, half[0], half[1], d, quotient, rest, code, wantQuotient, wantRest, want)
					}
					if want == impl.OK {
						fits++
					} else {
						no++
					}
				}
			}
			if fits < 500 || no < 500 {
				t.Errorf("%s of size %d: %d quotients and %d faults are too few", impl.OpName(op), size, fits, no)
			}
		}
	}
}

// TestDivideOfEachByte divides each number of two bytes of which the upper one is about a bound, by each byte.
func TestDivideOfEachByte(t *testing.T) {
	for _, high := range []int{0, 1, 2, 63, 64, 127, 128, 192, 254, 255} {
		for low := range 256 {
			for d := range 256 {
				plain, sign, by := high<<8|low, int(int16(high<<8|low)), int(int8(d))
				want := [3]int{0, 0, impl.ErrDivide}
				if d != 0 && plain/d < 256 {
					want = [3]int{plain / d, plain % d, impl.OK}
				}
				if quotient, rest, code := impl.Divide(impl.OpDiv, 1, high, low, d); [3]int{quotient, rest, code} != want {
					t.Fatalf("Divide(div, 1, %d, %d, %d) = %d, %d, %d, want %v", high, low, d, quotient, rest, code, want)
				}
				want = [3]int{0, 0, impl.ErrDivide}
				if d != 0 && -128 <= sign/by && sign/by <= 127 {
					want = [3]int{sign / by & 255, sign % by & 255, impl.OK}
				}
				if quotient, rest, code := impl.Divide(impl.OpIdiv, 1, high, low, d); [3]int{quotient, rest, code} != want {
					t.Fatalf("Divide(idiv, 1, %d, %d, %d) = %d, %d, %d, want %v", high, low, d, quotient, rest, code, want)
				}
			}
		}
	}
}
