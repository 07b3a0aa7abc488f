package tests

import (
	"math"
	"testing"

	"loop.example/g00664/impl"
)

func checkShifts(t *testing.T, cases []flagsCase) {
	t.Helper()
	checkFlagsCases(t, "Shift", impl.Shift, cases)
}

func TestShiftsOfOneByte(t *testing.T) {
	checkShifts(t, []flagsCase{
		{impl.OpShl, 1, 1, 1, "CPZSO", 2, ""}, {impl.OpShl, 1, 64, 1, "", 128, "SO"}, {impl.OpShl, 1, 128, 1, "", 0, "CZPO"}, {impl.OpShl, 1, 192, 1, "", 128, "CS"}, {impl.OpShl, 1, 129, 1, "", 2, "CO"},
		{impl.OpShl, 1, 1, 7, "", 128, "SO"}, {impl.OpShl, 1, 1, 8, "", 0, "CZPO"}, {impl.OpShl, 1, 254, 8, "", 0, "ZP"}, {impl.OpShl, 1, 255, 9, "C", 0, "ZP"}, {impl.OpShl, 1, 255, 31, "CO", 0, "ZP"},
		{impl.OpShr, 1, 1, 1, "", 0, "CZP"}, {impl.OpShr, 1, 128, 1, "", 64, "O"}, {impl.OpShr, 1, 129, 1, "", 64, "CO"}, {impl.OpShr, 1, 6, 1, "CPZSO", 3, "P"},
		{impl.OpShr, 1, 128, 7, "", 1, ""}, {impl.OpShr, 1, 192, 7, "", 1, "C"}, {impl.OpShr, 1, 128, 8, "", 0, "CZP"}, {impl.OpShr, 1, 127, 8, "", 0, "ZP"}, {impl.OpShr, 1, 255, 9, "C", 0, "ZP"}, {impl.OpShr, 1, 255, 31, "C", 0, "ZP"},
		{impl.OpSar, 1, 1, 1, "O", 0, "CZP"}, {impl.OpSar, 1, 128, 1, "O", 192, "SP"}, {impl.OpSar, 1, 129, 1, "", 192, "CSP"}, {impl.OpSar, 1, 64, 1, "C", 32, ""},
		{impl.OpSar, 1, 128, 7, "", 255, "SP"}, {impl.OpSar, 1, 192, 7, "", 255, "CSP"}, {impl.OpSar, 1, 128, 8, "", 255, "CSP"}, {impl.OpSar, 1, 127, 7, "", 0, "CZP"}, {impl.OpSar, 1, 127, 8, "C", 0, "ZP"}, {impl.OpSar, 1, 128, 31, "", 255, "CSP"}, {impl.OpSar, 1, 127, 31, "C", 0, "ZP"},
		// The other flags of the rotations stay.
		{impl.OpRol, 1, 129, 1, "", 3, "CO"}, {impl.OpRol, 1, 129, 1, "PZS", 3, "CPZSO"}, {impl.OpRol, 1, 192, 1, "O", 129, "C"}, {impl.OpRol, 1, 64, 1, "C", 128, "O"}, {impl.OpRol, 1, 0, 1, "CS", 0, "S"},
		{impl.OpRol, 1, 1, 7, "Z", 128, "ZO"}, {impl.OpRol, 1, 1, 8, "", 1, "CO"}, {impl.OpRol, 1, 129, 8, "", 129, "C"}, {impl.OpRol, 1, 1, 9, "P", 2, "P"}, {impl.OpRol, 1, 1, 31, "", 128, "O"},
		{impl.OpRor, 1, 129, 1, "O", 192, "C"}, {impl.OpRor, 1, 1, 1, "ZP", 128, "CPZO"}, {impl.OpRor, 1, 2, 1, "CSO", 1, "S"}, {impl.OpRor, 1, 128, 1, "", 64, "O"}, {impl.OpRor, 1, 0, 1, "COP", 0, "P"},
		{impl.OpRor, 1, 128, 7, "", 1, ""}, {impl.OpRor, 1, 128, 8, "", 128, "CO"}, {impl.OpRor, 1, 192, 8, "", 192, "C"}, {impl.OpRor, 1, 2, 9, "P", 1, "P"}, {impl.OpRor, 1, 1, 31, "", 2, ""},
		// Only the lowest byte counts.
		{impl.OpShl, 1, 384, 1, "", 0, "CZPO"}, {impl.OpShr, 1, -255, 1, "", 0, "CZP"}, {impl.OpSar, 1, 256, 1, "", 0, "ZP"}, {impl.OpRol, 1, -128, 1, "", 1, "CO"}, {impl.OpRor, 1, 257, 1, "", 128, "CO"},
	})
}

func TestShiftsOfMoreBytes(t *testing.T) {
	checkShifts(t, []flagsCase{
		{impl.OpShl, 2, 0x8001, 1, "", 2, "CO"}, {impl.OpShl, 2, 1, 15, "", 0x8000, "SPO"}, {impl.OpShl, 2, 1, 16, "", 0, "CZPO"}, {impl.OpShl, 2, 1, 17, "C", 0, "ZP"}, {impl.OpShl, 2, 3, 31, "C", 0, "ZP"},
		{impl.OpShr, 2, 0x8001, 1, "", 0x4000, "CPO"}, {impl.OpShr, 2, 0x8000, 15, "", 1, ""}, {impl.OpShr, 2, 0x8000, 16, "", 0, "CZP"}, {impl.OpShr, 2, 0xffff, 17, "C", 0, "ZP"}, {impl.OpSar, 2, 0x8000, 15, "", 0xffff, "SP"}, {impl.OpSar, 2, 0x8000, 16, "", 0xffff, "CSP"}, {impl.OpSar, 2, 0x8000, 31, "", 0xffff, "CSP"},
		{impl.OpRol, 2, 0x1234, 4, "", 0x2341, "CO"}, {impl.OpRol, 2, 0x1234, 16, "C", 0x1234, ""}, {impl.OpRol, 2, 0x1234, 20, "", 0x2341, "CO"}, {impl.OpRor, 2, 0x1234, 4, "S", 0x4123, "SO"}, {impl.OpRor, 2, 0x1234, 16, "C", 0x1234, ""}, {impl.OpRor, 2, 0x1234, 31, "", 0x2468, ""},
		{impl.OpShl, 4, 1, 31, "", 2147483648, "SPO"}, {impl.OpShl, 4, 3, 31, "", 2147483648, "CSP"}, {impl.OpShl, 4, 2147483648, 1, "", 0, "CZPO"}, {impl.OpShr, 4, 2147483648, 31, "", 1, ""}, {impl.OpSar, 4, 2147483648, 31, "", 4294967295, "SP"}, {impl.OpSar, 4, 2147483647, 31, "", 0, "CZP"}, {impl.OpRol, 4, 2147483649, 1, "", 3, "CO"}, {impl.OpRor, 4, 1, 1, "", 2147483648, "CO"}, {impl.OpRor, 4, -2147483647, 1, "", 3221225472, "C"},
		{impl.OpShl, 8, 1, 63, "", math.MinInt, "SPO"}, {impl.OpShl, 8, 3, 63, "", math.MinInt, "CSP"}, {impl.OpShl, 8, 1, 32, "", 1 << 32, "P"}, {impl.OpShl, 8, math.MinInt, 1, "", 0, "CZPO"}, {impl.OpShr, 8, math.MinInt, 63, "", 1, ""}, {impl.OpShr, 8, -1, 1, "", math.MaxInt, "CPO"}, {impl.OpSar, 8, math.MinInt, 63, "", -1, "SP"}, {impl.OpSar, 8, math.MaxInt, 62, "", 1, "C"}, {impl.OpSar, 8, -2, 1, "O", -1, "SP"},
		{impl.OpRol, 8, math.MinInt + 1, 1, "", 3, "CO"}, {impl.OpRol, 8, 1, 63, "", math.MinInt, "O"}, {impl.OpRor, 8, 1, 1, "", math.MinInt, "CO"}, {impl.OpRor, 8, 3, 1, "Z", math.MinInt + 1, "CZO"}, {impl.OpRor, 8, 1, 63, "", 2, ""},
		{impl.OpShl, 2, 65536 + 0x4000, 1, "", 0x8000, "SPO"}, {impl.OpSar, 4, 1 << 33, 1, "", 0, "ZP"}, {impl.OpShr, 4, -1, 1, "", 2147483647, "CPO"},
	})
}

// TestCounts looks that the lowest five bits of the count are taken, and six of size 8, also of those below 0.
func TestCounts(t *testing.T) {
	for _, v := range []struct{ count, five, six int }{
		{0, 0, 0}, {1, 1, 1}, {7, 7, 7}, {8, 8, 8}, {15, 15, 15}, {16, 16, 16}, {31, 31, 31}, {32, 0, 32}, {33, 1, 33}, {63, 31, 63}, {64, 0, 0}, {65, 1, 1}, {96, 0, 32}, {255, 31, 63}, {256, 0, 0}, {1 << 32, 0, 0}, {1<<40 + 35, 3, 35},
		{-1, 31, 63}, {-2, 30, 62}, {-31, 1, 33}, {-32, 0, 32}, {-33, 31, 31}, {-64, 0, 0}, {-65, 31, 63}, {math.MaxInt, 31, 63}, {math.MaxInt - 31, 0, 32}, {math.MinInt, 0, 0}, {math.MinInt + 1, 1, 1}, {math.MinInt + 33, 1, 33},
	} {
		for _, size := range sizes {
			taken := v.five
			if size == 8 {
				taken = v.six
			}
			for _, op := range shiftOps {
				bits, then := bitsOf(0x6a5b_3c9d_0ff0_1e87, size), 0
				for range taken {
					bits, then = shiftModel(op, bits, then)
				}
				if n, flags, code := impl.Shift(op, size, 0x6a5b_3c9d_0ff0_1e87, v.count, 0); n != numberOf(bits) || flags != then || code != impl.OK {
					t.Errorf("Shift(%s, %d, .., %d) = %d, %d, %d, want %d, %d", impl.OpName(op), size, v.count, n, flags, code, numberOf(bits), then)
				}
			}
		}
	}
}

// TestShiftByNone looks that all flags stay, and that the result is without a sign.
func TestShiftByNone(t *testing.T) {
	for _, size := range sizes {
		counts := []int{0, 64, -64, 128, 1 << 32, math.MinInt}
		if size < 8 {
			counts = append(counts, 32, -32, 96, math.MaxInt-31)
		}
		for _, op := range shiftOps {
			for _, a := range edgesOf(size) {
				for _, count := range counts {
					for _, before := range flagSums() {
						if n, flags, code := impl.Shift(op, size, a, count, before); n != lowestOf(plainOf(a, size), size) || flags != before || code != impl.OK {
							t.Fatalf("Shift(%s, %d, %d, %d, %d) = %d, %d, %d", impl.OpName(op), size, a, count, before, n, flags, code)
						}
					}
				}
			}
		}
	}
}

// TestShiftsAreTheirSingleShifts holds for P6: it goes on by one, both in the model and by Shift itself, and looks at the counts of each place.
func TestShiftsAreTheirSingleShifts(t *testing.T) {
	for _, size := range sizes {
		most := 32
		if size == 8 {
			most = 64
		}
		for _, op := range shiftOps {
			for _, a := range edgesOf(size) {
				for _, before := range []int{0, allOn} {
					bits, then := bitsOf(a, size), before
					stepped, steppedFlags := a, before
					for n := 1; n < most; n++ {
						bits, then = shiftModel(op, bits, then)
						stepped, steppedFlags, _ = impl.Shift(op, size, stepped, 1, steppedFlags)
						if stepped != numberOf(bits) || steppedFlags != then {
							t.Fatalf("%s of size %d of %d: %d single shifts make %d, %d, want %d, %d", impl.OpName(op), size, a, n, stepped, steppedFlags, numberOf(bits), then)
						}
						for _, count := range []int{n, n - most, n + 64, n + 1<<40} {
							if got, flags, code := impl.Shift(op, size, a, count, before); got != stepped || flags != then || code != impl.OK {
								t.Fatalf("Shift(%s, %d, %d, %d, %d) = %d, %d, %d, want %d, %d", impl.OpName(op), size, a, count, before, got, flags, code, stepped, then)
							}
						}
					}
				}
			}
		}
	}
}

// TestShiftsInTwoParts holds for P6: what is shifted by m and then by n is shifted by both together.
func TestShiftsInTwoParts(t *testing.T) {
	for _, size := range sizes {
		most := max(31, 8*size-1)
		for _, op := range shiftOps {
			for _, a := range edgesOf(size)[:12] {
				for _, whole := range []int{1, 7, 8, 9, 31, most} {
					want, then, _ := impl.Shift(op, size, a, whole, fl("CZ"))
					for first := range whole + 1 {
						n, flags, _ := impl.Shift(op, size, a, first, fl("CZ"))
						n, flags, code := impl.Shift(op, size, n, whole-first, flags)
						if n != want || flags != then || code != impl.OK {
							t.Fatalf("%s of size %d of %d by %d and %d: %d, %d, want %d, %d", impl.OpName(op), size, a, first, whole-first, n, flags, want, then)
						}
					}
				}
			}
		}
	}
}

// TestRotationsTurnBack looks that `ror` undoes `rol`, by any count.
func TestRotationsTurnBack(t *testing.T) {
	for _, size := range sizes {
		for _, a := range edgesOf(size) {
			for count := range 70 {
				there, _, _ := impl.Shift(impl.OpRol, size, a, count, 0)
				back, _, code := impl.Shift(impl.OpRor, size, there, count, 0)
				if back != lowestOf(plainOf(a, size), size) || code != impl.OK {
					t.Fatalf("%d of size %d by %d: %d, then %d", a, size, count, there, back)
				}
			}
		}
	}
}
