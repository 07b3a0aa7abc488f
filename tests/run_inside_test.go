package tests

import (
	"math"
	"slices"
	"testing"

	"loop.example/g00664/impl"
)

func checkInside(t *testing.T, address, size int, want bool) {
	t.Helper()
	for _, a := range []impl.Access{readOf(address, size, 0), writeOf(address, size, -1), runOf(address, size), {Address: address, Size: size}, {Kind: -7, Address: address, Size: size, Value: 1 << 40}} {
		if impl.Inside(a) != want {
			t.Errorf("Inside(%+v) = %v", a, !want)
		}
	}
}

// insideByHand is what chapter 14 says of an access, byte by byte.
func insideByHand(address, size int) bool {
	if !within(size, 1, 15) {
		return false
	}
	for i := range size {
		if !within(around(address, i), 12288, 24575) {
			return false
		}
	}
	return true
}

// TestInsideTold has accesses at the first and the last byte of the sandbox and of each guard, and over each of these ends.
func TestInsideTold(t *testing.T) {
	for _, v := range []struct {
		address, size int
		want          bool
	}{
		{12288, 1, true}, {12288, 8, true}, {12288, 15, true}, {12287, 1, false}, {12287, 2, false}, {12281, 8, false}, {12273, 15, false},
		{16383, 1, true}, {16383, 2, true}, {16380, 8, true}, {16384, 1, true}, {16384, 15, true}, {18000, 4, true},
		{20479, 1, true}, {20479, 2, true}, {20473, 8, true}, {20480, 1, true}, {20480, 15, true},
		{24575, 1, true}, {24575, 2, false}, {24568, 8, true}, {24569, 8, false}, {24561, 15, true}, {24562, 15, false}, {24576, 1, false},
		{4096, 1, false}, {4096, 8, false}, {32768, 8, false}, {0, 1, false}, {65535, 1, false},
	} {
		checkInside(t, v.address, v.size, v.want)
	}
}

// TestInsideBySize: Size is from 1 to 15, wherever the access is.
func TestInsideBySize(t *testing.T) {
	for _, size := range slices.Concat(farNumbers, []int{0, -1, -8, -15, -16, 16, 17, 255, 4096, 12288, 1<<32 + 8, math.MinInt + 8}) {
		for _, address := range []int{16384, 12288, 24575, 18000, 0, -1, math.MaxInt, math.MinInt} {
			checkInside(t, address, size, false)
		}
	}
	for size := 1; size < 16; size++ {
		checkInside(t, 18000, size, true)
	}
}

// TestInsideOfAll holds Inside against the tests' own about all ends, and near both ends of what 64 bits hold, where addresses go round.
func TestInsideOfAll(t *testing.T) {
	for _, end := range []int{0, 4096, 4352, 12288, 16384, 20480, 24576, 32768, 65536, math.MaxInt, math.MinInt, -12288, -16384, -24576, 1<<32 + 16384, math.MinInt + 16384, -1<<32 + 16384} {
		for by := -18; by <= 18; by++ {
			for size := -2; size <= 18; size++ {
				address := around(end, by)
				checkInside(t, address, size, insideByHand(address, size))
			}
		}
	}
}
