package tests

import (
	"math"
	"slices"
	"strings"
	"testing"

	"loop.example/g00664/impl"
)

func TestSandboxLimits(t *testing.T) {
	got := []int{impl.SandBase, impl.SandSize, impl.GuardSize, impl.PrivateLow, impl.PrivateHigh, impl.TrampAt, impl.TrampMany, impl.Bundle, impl.TextAt, impl.StackAt, impl.DataMask, impl.JumpMask, impl.MaxCode, impl.DispLow, impl.DispHigh,
		impl.ZnOther, impl.ZnSandbox, impl.ZnGuard, impl.ZnPrivate}
	want := []int{16384, 4096, 4096, 4096, 32768, 256, 8, 32, 512, 3584, 4095, 4064, 3072, -2048, 2047, 0, 1, 2, 3}
	if !slices.Equal(got, want) {
		t.Error(got, want)
	}
}

// TestZoneOf has the first and the last address of each zone, and those beside them; what is left is none.
func TestZoneOf(t *testing.T) {
	for _, v := range []struct{ from, to, zone int }{
		{math.MinInt, math.MinInt + 40000, 0}, {-70000, 4095, 0}, {4096, 4351, 3}, {4352, 12287, 0}, {12288, 16383, 2}, {16384, 20479, 1}, {20480, 24575, 2}, {24576, 32767, 0}, {32768, 33023, 3}, {33024, 70000, 0}, {math.MaxInt - 40000, math.MaxInt - 1, 0},
	} {
		for address := v.from; address <= v.to; address++ {
			if zone := impl.ZoneOf(address); zone != v.zone {
				t.Fatal("ZoneOf", address, zone, v.zone)
			}
		}
	}
	for _, address := range slices.Concat(farNumbers, farAddresses[:7], []int{1<<32 + 16384, -1<<32 + 16384, 1<<16 + 16384, 1<<32 + 4096, math.MaxInt, 1<<63 - 4096, -16384, -4096}) {
		if zone := impl.ZoneOf(address); zone != 0 {
			t.Error("ZoneOf", address, zone)
		}
	}
}

func TestMasked(t *testing.T) {
	for _, v := range []struct{ v, mask, want int }{
		{0, 4095, 16384}, {1, 4095, 16385}, {4095, 4095, 20479}, {4096, 4095, 16384}, {4097, 4095, 16385}, {-1, 4095, 20479}, {-2, 4095, 20478}, {16384 + 777, 4095, 16384 + 777}, {20480, 4095, 16384},
		{0, 4064, 16384}, {31, 4064, 16384}, {32, 4064, 16416}, {33, 4064, 16416}, {-1, 4064, 20448}, {4095, 4064, 20448}, {16895, 4064, 16384 + 480},
		{1<<32 + 33, 4095, 16417}, {1 << 31, 4095, 16384}, {1<<31 + 5, 4095, 16389}, {math.MaxInt, 4095, 20479}, {math.MinInt, 4095, 16384}, {math.MinInt + 9, 4095, 16393}, {math.MaxInt, 4064, 20448},
		{-1, 0, 16384}, {-1, 1, 16385}, {6, 3, 16386}, {-1, 4094, 20478},
		{5, 4096, 0}, {5, -1, 0}, {0, 4096, 0}, {0, -1, 0}, {-1, 4097, 0}, {5, 8191, 0}, {5, 1<<32 + 5, 0}, {5, 1 << 32, 0}, {5, math.MaxInt, 0}, {5, math.MinInt, 0}, {5, math.MinInt + 5, 0},
	} {
		if got := impl.Masked(v.v, v.mask); got != v.want {
			t.Error("Masked", v.v, v.mask, got, v.want)
		}
	}
}

// TestMaskedIsInTheSandbox has each mask, with numbers that have each bit.
func TestMaskedIsInTheSandbox(t *testing.T) {
	for mask := -3; mask <= 4100; mask++ {
		for _, v := range slices.Concat([]int{0, -1, 4095, 0x555, 0xaaa, 0x555555555555}, farNumbers) {
			want := 0
			if within(mask, 0, 4095) {
				want = 16384
				for bit := range 12 {
					want += v >> bit & 1 * (mask >> bit & 1) << bit
				}
			}
			if got := impl.Masked(v, mask); got != want {
				t.Fatal("Masked", v, mask, got, want)
			}
		}
	}
}

func TestTrampolineOf(t *testing.T) {
	begins := map[int]int{16640: 0, 16672: 1, 16704: 2, 16736: 3, 16768: 4, 16800: 5, 16832: 6, 16864: 7}
	for address := -70000; address <= 70000; address++ {
		want, is := begins[address]
		if n, yes := impl.TrampolineOf(address); n != want || yes != is {
			t.Fatal("TrampolineOf", address, n, yes)
		}
	}
	for _, address := range slices.Concat(farNumbers, farAddresses[:4], []int{1<<32 + 16640, 1<<16 + 16640, -1<<32 + 16640, math.MinInt + 16640, math.MinInt + 32, math.MaxInt - 31}) {
		if n, yes := impl.TrampolineOf(address); n != 0 || yes {
			t.Error("TrampolineOf", address, n, yes)
		}
	}
}

// TestPadded has texts of all lengths that may be, of nops, so that it is seen what stands behind them.
func TestPadded(t *testing.T) {
	for size := 1; size <= impl.MaxCode; size++ {
		want := nops(size)
		for len(want)%256 != 0 {
			want += hlt
		}
		if got, code := impl.Padded(nops(size)); got != want || code != impl.OK {
			t.Fatalf("Padded of %d bytes = %d bytes, %d", size, len(got), code)
		}
	}
	for _, v := range []struct{ size, want int }{{1, 256}, {255, 256}, {256, 256}, {257, 512}, {511, 512}, {512, 512}, {513, 768}, {3071, 3072}, {3072, 3072}} {
		if got, code := impl.Padded(strings.Repeat("\x00", v.size)); len(got) != v.want || code != impl.OK {
			t.Errorf("Padded of %d bytes = %d bytes, %d", v.size, len(got), code)
		}
	}
	for _, v := range []struct{ size, code int }{{0, impl.ErrText}, {3073, impl.ErrText}, {3104, impl.ErrText}, {3328, impl.ErrText}, {65535, impl.ErrText}, {65536, impl.ErrText}, {65537, impl.ErrLong}, {65792, impl.ErrLong}, {200000, impl.ErrLong}} {
		if got, code := impl.Padded(nops(v.size)); got != "" || code != v.code {
			t.Errorf("Padded of %d bytes = %d bytes, %d", v.size, len(got), code)
		}
	}
}

func checkMayGo(t *testing.T, r impl.Report, size, goal int, want bool) {
	t.Helper()
	if got := impl.MayGo(r, size, goal); got != want {
		t.Errorf("MayGo(%+v, %d, %d) = %v", r, size, goal, got)
	}
}

// TestMayGo asks of each offset of a text that is taken, by hand: the third instruction is one byte long, the second one inner.
func TestMayGo(t *testing.T) {
	r, code := impl.Validate(filled(masking(1, 4095)+reading(indexedBy(1, 0))+"\xeb\xfc"), codeAt-impl.Bundle)
	if code != impl.ErrTarget || r.At != 10 {
		t.Error(r, code)
	}
	r, code = impl.Validate(filled(masking(1, 4095)+reading(indexedBy(1, 0))+nop+"\xeb\xfd"), codeAt)
	if code != impl.OK {
		t.Fatal(r, code)
	}
	for goal := -40; goal < 80; goal++ {
		checkMayGo(t, r, 32, goal, goal == 0 || goal == 10 || goal == 11 || within(goal, 13, 31))
	}
	for _, goal := range slices.Concat(farNumbers, []int{math.MinInt + 32, 1<<32 + 10, 1<<16 + 10}) {
		for _, size := range slices.Concat(farNumbers, []int{32}) {
			checkMayGo(t, r, size, goal, false)
		}
	}
}

// TestMayGoOfAnySize: goal is to be from 0 to size - 1, whatever Starts has.
func TestMayGoOfAnySize(t *testing.T) {
	r := impl.Report{Starts: []int{math.MinInt, -5, -1, 0, 3, 9, 32, math.MaxInt}, Inner: []int{3}}
	for _, size := range slices.Concat(farNumbers, []int{-32, -1, 0, 1, 2, 9, 10, 31, 32, 33, 64}) {
		for _, goal := range []int{math.MinInt, -5, -1, 0, 3, 9, 32, math.MaxInt} {
			checkMayGo(t, r, size, goal, goal >= 0 && goal < size && goal != 3)
		}
		for _, goal := range []int{1, 2, 4, 8, 10, 31, 33, math.MaxInt - 1} {
			checkMayGo(t, r, size, goal, false)
		}
	}
}

// TestMayGoOfAnyReport: lists need not rise, nor be those of a text; Goals and At are not looked at.
func TestMayGoOfAnyReport(t *testing.T) {
	for goal := -2; goal < 40; goal++ {
		checkMayGo(t, impl.Report{}, 32, goal, false)
		checkMayGo(t, impl.Report{Starts: []int{}, Inner: []int{}, Goals: []int{}}, 32, goal, false)
		checkMayGo(t, impl.Report{Goals: upTo(32), Inner: upTo(32), At: goal}, 32, goal, false)
		checkMayGo(t, impl.Report{Starts: upTo(32), Inner: upTo(32)}, 32, goal, false)
		checkMayGo(t, impl.Report{Starts: upTo(32), At: 7}, 32, goal, within(goal, 0, 31))
		checkMayGo(t, impl.Report{Starts: []int{9, 4, 9, 7, 0, 31}, Inner: []int{31, 8, 7, 7}}, 32, goal, goal == 9 || goal == 4 || goal == 0)
		checkMayGo(t, impl.Report{Starts: []int{9, 4}, Inner: []int{}, Goals: []int{9}}, 9, goal, goal == 4)
	}
	long := impl.Report{Starts: upTo(10000), Inner: upTo(9999)}
	checkMayGo(t, long, 10000, 9999, true)
	checkMayGo(t, long, 10000, 9998, false)
	checkMayGo(t, long, 9999, 9999, false)
}
