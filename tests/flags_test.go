package tests

import (
	"math"
	"testing"

	"loop.example/g00664/impl"
)

func TestFlagsOf(t *testing.T) {
	for _, v := range []struct {
		size, v int
		flags   string
	}{
		{1, 0, "ZP"}, {1, 1, ""}, {1, 3, "P"}, {1, 7, ""}, {1, 126, "P"}, {1, 127, ""}, {1, 128, "S"}, {1, 129, "SP"}, {1, 131, "S"}, {1, 255, "SP"},
		{2, 0, "ZP"}, {2, 1, ""}, {2, 128, ""}, {2, 255, "P"}, {2, 32767, "P"}, {2, 32768, "SP"}, {2, 32769, "S"}, {2, 32771, "SP"}, {2, 65535, "SP"},
		{4, 0, "ZP"}, {4, 32768, "P"}, {4, 2147483647, "P"}, {4, 2147483648, "SP"}, {4, 2147483649, "S"}, {4, 4294967295, "SP"},
		{8, 0, "ZP"}, {8, 2147483648, "P"}, {8, 2147483649, ""}, {8, math.MaxInt, "P"}, {8, math.MinInt, "SP"}, {8, math.MinInt + 1, "S"}, {8, -1, "SP"}, {8, -2, "S"},
		// The bits of the other bytes do not count for FlP.
		{2, 0x0100, "P"}, {2, 0x0101, ""}, {2, 0x0103, "P"}, {2, 0x0301, ""}, {4, 0x00010000, "P"}, {4, 0x01010101, ""}, {4, 0x10000003, "P"}, {8, 1 << 32, "P"}, {8, 1<<32 + 1, ""}, {8, 1<<62 + 3, "P"}, {8, 3<<61 + 1, ""},
		// More is handed in than the size has.
		{1, 256, "ZP"}, {1, 257, ""}, {1, -256, "ZP"}, {1, -129, ""}, {1, -128, "S"}, {1, -1, "SP"}, {1, math.MinInt, "ZP"}, {1, math.MaxInt, "SP"},
		{2, 65536, "ZP"}, {2, -65536, "ZP"}, {2, -32769, "P"}, {2, -32768, "SP"}, {2, math.MinInt, "ZP"},
		{4, 4294967296, "ZP"}, {4, -4294967296, "ZP"}, {4, -2147483649, "P"}, {4, -2147483648, "SP"}, {4, math.MinInt, "ZP"},
	} {
		if flags, code := impl.FlagsOf(v.size, v.v); flags != fl(v.flags) || code != impl.OK {
			t.Errorf("FlagsOf(%d, %d) = %d, %d, want %d", v.size, v.v, flags, code, fl(v.flags))
		}
	}
}

// TestFlagsOfEachByte looks at each lowest byte, with each size and with other bytes above it.
func TestFlagsOfEachByte(t *testing.T) {
	for _, size := range sizes {
		for low := range 256 {
			for _, above := range []int{0, 1 << 8, 3 << 8, -1 << 8, 1 << 15, 1 << 31, 1 << 62, math.MinInt} {
				v := above | low
				if flags, code := impl.FlagsOf(size, v); flags != flagsOfBits(bitsOf(v, size)) || code != impl.OK {
					t.Fatalf("FlagsOf(%d, %#x) = %d, %d", size, v, flags, code)
				}
			}
		}
	}
}

// A flagsCase is a call of Alu or Shift with its flags told by their letters, and what it answers.
type flagsCase struct {
	op, size, a, b int
	flags          string
	want           int
	then           string
}

func checkFlagsCases(t *testing.T, name string, made func(op, size, a, b, flags int) (int, int, int), cases []flagsCase) {
	t.Helper()
	for _, v := range cases {
		if n, flags, code := made(v.op, v.size, v.a, v.b, fl(v.flags)); n != v.want || flags != fl(v.then) || code != impl.OK {
			t.Errorf("%s(%s, %d, %d, %d, %q) = %d, %d, %d, want %d, %q", name, impl.OpName(v.op), v.size, v.a, v.b, v.flags, n, flags, code, v.want, v.then)
		}
	}
}

func checkAlu(t *testing.T, cases []flagsCase) {
	t.Helper()
	checkFlagsCases(t, "Alu", impl.Alu, cases)
}

func TestSums(t *testing.T) {
	checkAlu(t, []flagsCase{
		{impl.OpAdd, 1, 2, 3, "", 5, "P"}, {impl.OpAdd, 1, 100, 27, "", 127, ""}, {impl.OpAdd, 1, 127, 1, "", 128, "SO"}, {impl.OpAdd, 1, 128, 127, "", 255, "SP"}, {impl.OpAdd, 1, 255, 1, "", 0, "CZP"}, {impl.OpAdd, 1, 254, 1, "", 255, "SP"},
		{impl.OpAdd, 1, 128, 128, "", 0, "CZPO"}, {impl.OpAdd, 1, 128, 255, "", 127, "CO"}, {impl.OpAdd, 1, 255, 255, "", 254, "CS"}, {impl.OpAdd, 1, 0, 0, "CPZSO", 0, "ZP"}, {impl.OpAdd, 1, 1, 1, "C", 2, ""},
		{impl.OpAdd, 2, 255, 1, "", 256, "P"}, {impl.OpAdd, 2, 32767, 1, "", 32768, "SPO"}, {impl.OpAdd, 2, 65535, 1, "", 0, "CZP"}, {impl.OpAdd, 2, 32768, 32768, "", 0, "CZPO"}, {impl.OpAdd, 2, 32768, 65535, "", 32767, "CPO"},
		{impl.OpAdd, 4, 65535, 1, "", 65536, "P"}, {impl.OpAdd, 4, 2147483647, 1, "", 2147483648, "SPO"}, {impl.OpAdd, 4, 4294967295, 1, "", 0, "CZP"}, {impl.OpAdd, 4, 2147483648, 2147483648, "", 0, "CZPO"}, {impl.OpAdd, 4, 2147483648, 4294967295, "", 2147483647, "CPO"},
		{impl.OpAdd, 8, 4294967295, 1, "", 4294967296, "P"}, {impl.OpAdd, 8, math.MaxInt, 1, "", math.MinInt, "SPO"}, {impl.OpAdd, 8, -1, 1, "", 0, "CZP"}, {impl.OpAdd, 8, math.MinInt, math.MinInt, "", 0, "CZPO"}, {impl.OpAdd, 8, math.MinInt, -1, "", math.MaxInt, "CPO"}, {impl.OpAdd, 8, math.MaxInt, math.MaxInt, "", -2, "SO"},
		// The carry counts, and may go over a bound alone.
		{impl.OpAdc, 1, 2, 3, "", 5, "P"}, {impl.OpAdc, 1, 2, 3, "C", 6, "P"}, {impl.OpAdc, 1, 2, 3, "PZSO", 5, "P"}, {impl.OpAdc, 1, 255, 0, "", 255, "SP"}, {impl.OpAdc, 1, 255, 0, "C", 0, "CZP"}, {impl.OpAdc, 1, 0, 255, "C", 0, "CZP"}, {impl.OpAdc, 1, 255, 255, "C", 255, "CSP"}, {impl.OpAdc, 1, 127, 0, "C", 128, "SO"}, {impl.OpAdc, 1, 0, 127, "C", 128, "SO"}, {impl.OpAdc, 1, 127, 0, "PZSO", 127, ""},
		{impl.OpAdc, 1, 128, 127, "C", 0, "CZP"}, {impl.OpAdc, 1, 127, 255, "C", 127, "C"}, {impl.OpAdc, 1, 128, 255, "", 127, "CO"}, {impl.OpAdc, 1, 128, 255, "C", 128, "CS"},
		{impl.OpAdc, 2, 65535, 0, "C", 0, "CZP"}, {impl.OpAdc, 2, 32767, 0, "C", 32768, "SPO"}, {impl.OpAdc, 4, 4294967295, 0, "C", 0, "CZP"}, {impl.OpAdc, 4, 2147483647, 0, "C", 2147483648, "SPO"},
		{impl.OpAdc, 8, -1, 0, "C", 0, "CZP"}, {impl.OpAdc, 8, 0, -1, "C", 0, "CZP"}, {impl.OpAdc, 8, -1, -1, "C", -1, "CSP"}, {impl.OpAdc, 8, math.MaxInt, 0, "C", math.MinInt, "SPO"}, {impl.OpAdc, 8, math.MaxInt, math.MaxInt, "C", -1, "SPO"}, {impl.OpAdc, 8, math.MinInt, -1, "C", math.MinInt, "CSP"}, {impl.OpAdc, 8, math.MaxInt, math.MinInt, "C", 0, "CZP"},
		// Only the lowest bytes count.
		{impl.OpAdd, 1, -1, 257, "", 0, "CZP"}, {impl.OpAdd, 1, -129, 256001, "", 128, "SO"}, {impl.OpAdd, 2, -32769, 65537, "", 32768, "SPO"}, {impl.OpAdd, 2, -1, 1, "", 0, "CZP"}, {impl.OpAdd, 4, -2147483649, 4294967297, "", 2147483648, "SPO"}, {impl.OpAdd, 4, math.MaxInt, math.MinInt + 1, "", 0, "CZP"}, {impl.OpAdc, 4, -1, math.MinInt, "C", 0, "CZP"}, {impl.OpAdd, 1, 256, 512, "", 0, "ZP"}, {impl.OpAdd, 4, -5, 3, "", 4294967294, "S"},
	})
}

func TestDifferences(t *testing.T) {
	checkAlu(t, []flagsCase{
		{impl.OpSub, 1, 5, 3, "", 2, ""}, {impl.OpSub, 1, 5, 5, "CPZSO", 0, "ZP"}, {impl.OpSub, 1, 0, 1, "", 255, "CSP"}, {impl.OpSub, 1, 128, 1, "", 127, "O"}, {impl.OpSub, 1, 127, 255, "", 128, "CSO"}, {impl.OpSub, 1, 126, 255, "", 127, "C"}, {impl.OpSub, 1, 0, 128, "", 128, "CSO"}, {impl.OpSub, 1, 0, 127, "", 129, "CSP"}, {impl.OpSub, 1, 255, 255, "C", 0, "ZP"}, {impl.OpSub, 1, 255, 127, "", 128, "S"}, {impl.OpSub, 1, 254, 127, "", 127, "O"},
		{impl.OpSub, 2, 0, 1, "", 65535, "CSP"}, {impl.OpSub, 2, 32768, 1, "", 32767, "PO"}, {impl.OpSub, 2, 256, 1, "", 255, "P"}, {impl.OpSub, 2, 0, 32768, "", 32768, "CSPO"},
		{impl.OpSub, 4, 0, 1, "", 4294967295, "CSP"}, {impl.OpSub, 4, 2147483648, 1, "", 2147483647, "PO"}, {impl.OpSub, 4, 0, 2147483648, "", 2147483648, "CSPO"},
		{impl.OpSub, 8, 0, 1, "", -1, "CSP"}, {impl.OpSub, 8, math.MinInt, 1, "", math.MaxInt, "PO"}, {impl.OpSub, 8, 0, math.MinInt, "", math.MinInt, "CSPO"}, {impl.OpSub, 8, math.MaxInt, -1, "", math.MinInt, "CSPO"}, {impl.OpSub, 8, -1, math.MinInt, "", math.MaxInt, "P"}, {impl.OpSub, 8, math.MinInt, math.MinInt, "", 0, "ZP"},
		// What was borrowed counts, and may go over a bound alone.
		{impl.OpSbb, 1, 5, 3, "", 2, ""}, {impl.OpSbb, 1, 5, 3, "C", 1, ""}, {impl.OpSbb, 1, 5, 3, "PZSO", 2, ""}, {impl.OpSbb, 1, 0, 0, "", 0, "ZP"}, {impl.OpSbb, 1, 0, 0, "C", 255, "CSP"}, {impl.OpSbb, 1, 0, 255, "", 1, "C"}, {impl.OpSbb, 1, 0, 255, "C", 0, "CZP"}, {impl.OpSbb, 1, 128, 0, "C", 127, "O"}, {impl.OpSbb, 1, 128, 0, "PZSO", 128, "S"}, {impl.OpSbb, 1, 0, 127, "C", 128, "CS"}, {impl.OpSbb, 1, 0, 128, "C", 127, "C"}, {impl.OpSbb, 1, 127, 255, "C", 127, "C"}, {impl.OpSbb, 1, 255, 255, "C", 255, "CSP"}, {impl.OpSbb, 1, 3, 3, "C", 255, "CSP"},
		{impl.OpSbb, 2, 0, 0, "C", 65535, "CSP"}, {impl.OpSbb, 2, 32768, 0, "C", 32767, "PO"}, {impl.OpSbb, 2, 0, 65535, "C", 0, "CZP"}, {impl.OpSbb, 4, 0, 0, "C", 4294967295, "CSP"}, {impl.OpSbb, 4, 2147483648, 0, "C", 2147483647, "PO"}, {impl.OpSbb, 4, 0, 4294967295, "C", 0, "CZP"},
		{impl.OpSbb, 8, 0, 0, "C", -1, "CSP"}, {impl.OpSbb, 8, math.MinInt, 0, "C", math.MaxInt, "PO"}, {impl.OpSbb, 8, 0, -1, "C", 0, "CZP"}, {impl.OpSbb, 8, math.MinInt, math.MinInt, "C", -1, "CSP"}, {impl.OpSbb, 8, math.MaxInt, -1, "C", math.MaxInt, "CP"},
		// Only the lowest bytes count.
		{impl.OpSub, 1, 256, 257, "", 255, "CSP"}, {impl.OpSub, 1, -128, -255, "", 127, "O"}, {impl.OpSub, 2, -65536, 1, "", 65535, "CSP"}, {impl.OpSub, 4, -2147483648, 1 << 40, "", 2147483648, "SP"}, {impl.OpSub, 4, math.MinInt, math.MaxInt, "", 1, "C"}, {impl.OpSbb, 1, -256, 512, "C", 255, "CSP"},
	})
}

func TestBitsOfTwo(t *testing.T) {
	checkAlu(t, []flagsCase{
		{impl.OpOr, 1, 0x41, 0x14, "", 0x55, "P"}, {impl.OpOr, 1, 128, 1, "CO", 129, "SP"}, {impl.OpOr, 2, 0x8000, 0x0101, "CPZSO", 0x8101, "S"}, {impl.OpOr, 4, 0, 0, "CO", 0, "ZP"}, {impl.OpOr, 8, math.MinInt, 1, "CO", math.MinInt + 1, "S"},
		{impl.OpAnd, 1, 0xf1, 0x1f, "CO", 0x11, "P"}, {impl.OpAnd, 1, 15, 240, "CO", 0, "ZP"}, {impl.OpAnd, 2, -1, 0x8001, "CO", 0x8001, "S"}, {impl.OpAnd, 4, -1, -2147483648, "CO", 2147483648, "SP"}, {impl.OpAnd, 8, -1, math.MinInt, "CO", math.MinInt, "SP"}, {impl.OpAnd, 8, -1, 4294967295, "", 4294967295, "P"},
		{impl.OpXor, 1, 255, 1, "CO", 254, "S"}, {impl.OpXor, 2, 0x1234, 0x1234, "CSO", 0, "ZP"}, {impl.OpXor, 4, -1, 1, "CO", 4294967294, "S"}, {impl.OpXor, 8, math.MinInt, -1, "CO", math.MaxInt, "P"}, {impl.OpXor, 1, 0x180, 0x80, "", 0, "ZP"},
	})
}

// TestComparisons looks that `cmp` and `test` have the flags of `sub` and `and`, and answer the lowest bytes of a.
func TestComparisons(t *testing.T) {
	checkAlu(t, []flagsCase{
		{impl.OpCmp, 1, 5, 5, "CO", 5, "ZP"}, {impl.OpCmp, 1, 0, 1, "", 0, "CSP"}, {impl.OpCmp, 1, 128, 1, "", 128, "O"}, {impl.OpCmp, 1, 0x1ff, 1, "", 255, "S"}, {impl.OpCmp, 2, -1, 65535, "CO", 65535, "ZP"}, {impl.OpCmp, 4, -2, 1, "C", 4294967294, "S"}, {impl.OpCmp, 8, math.MinInt, 1, "", math.MinInt, "PO"},
		{impl.OpTest, 1, 3, 4, "CSO", 3, "ZP"}, {impl.OpTest, 1, 0x181, 0x180, "CO", 0x81, "S"}, {impl.OpTest, 2, -1, 0, "", 65535, "ZP"}, {impl.OpTest, 4, -1, -2147483648, "", 4294967295, "SP"}, {impl.OpTest, 8, math.MinInt, -1, "CO", math.MinInt, "SP"},
	})
	for _, size := range sizes {
		for _, a := range edgesOf(size) {
			for _, b := range edgesOf(size) {
				for _, beside := range [][2]int{{impl.OpCmp, impl.OpSub}, {impl.OpTest, impl.OpAnd}} {
					_, want, _ := impl.Alu(beside[1], size, a, b, allOn)
					n, flags, code := impl.Alu(beside[0], size, a, b, allOn)
					if n != lowestOf(plainOf(a, size), size) || flags != want || code != impl.OK {
						t.Fatalf("Alu(%s, %d, %d, %d) = %d, %d, %d, want flags %d", impl.OpName(beside[0]), size, a, b, n, flags, code, want)
					}
				}
			}
		}
	}
}

// TestAluOfAll hands in numbers about all bounds, and of size 1 each a, with the flags off, on, and FlC alone on and alone off.
func TestAluOfAll(t *testing.T) {
	for _, size := range sizes {
		for _, a := range firstsOf(size) {
			for _, b := range edgesOf(size) {
				for _, op := range aluOps {
					for _, before := range []int{0, allOn, impl.FlC, allOn - impl.FlC} {
						want, then := aluModel(op, size, a, b, before)
						if n, flags, code := impl.Alu(op, size, a, b, before); n != want || flags != then || code != impl.OK {
							t.Fatalf("Alu(%s, %d, %d, %d, %d) = %d, %d, %d, want %d, %d", impl.OpName(op), size, a, b, before, n, flags, code, want, then)
						}
					}
				}
			}
		}
	}
}

func TestOne(t *testing.T) {
	for _, v := range []struct {
		op, size, a int
		flags       string
		want        int
		then        string
	}{
		// The flags of `not` stay.
		{impl.OpNot, 1, 0, "", 255, ""}, {impl.OpNot, 1, 255, "CPZSO", 0, "CPZSO"}, {impl.OpNot, 1, 0x0f, "CZ", 0xf0, "CZ"}, {impl.OpNot, 2, 0x1234, "PO", 0xedcb, "PO"}, {impl.OpNot, 4, 0, "S", 4294967295, "S"}, {impl.OpNot, 4, -1, "", 0, ""}, {impl.OpNot, 8, math.MinInt, "CPZSO", math.MaxInt, "CPZSO"}, {impl.OpNot, 8, 0, "", -1, ""}, {impl.OpNot, 1, -256, "C", 255, "C"},
		{impl.OpNeg, 1, 0, "CPZSO", 0, "ZP"}, {impl.OpNeg, 1, 1, "", 255, "CSP"}, {impl.OpNeg, 1, 255, "", 1, "C"}, {impl.OpNeg, 1, 127, "", 129, "CSP"}, {impl.OpNeg, 1, 128, "", 128, "CSO"}, {impl.OpNeg, 1, 129, "", 127, "C"}, {impl.OpNeg, 1, 256, "C", 0, "ZP"},
		{impl.OpNeg, 2, 0, "C", 0, "ZP"}, {impl.OpNeg, 2, 32768, "", 32768, "CSPO"}, {impl.OpNeg, 2, 256, "", 65280, "CSP"}, {impl.OpNeg, 4, 0, "C", 0, "ZP"}, {impl.OpNeg, 4, -2147483648, "", 2147483648, "CSPO"}, {impl.OpNeg, 4, 5, "", 4294967291, "CS"},
		{impl.OpNeg, 8, 0, "CO", 0, "ZP"}, {impl.OpNeg, 8, math.MinInt, "", math.MinInt, "CSPO"}, {impl.OpNeg, 8, math.MaxInt, "", math.MinInt + 1, "CS"}, {impl.OpNeg, 8, -1, "", 1, "C"},
		// FlC of `inc` and `dec` stays.
		{impl.OpInc, 1, 0, "", 1, ""}, {impl.OpInc, 1, 0, "C", 1, "C"}, {impl.OpInc, 1, 127, "", 128, "SO"}, {impl.OpInc, 1, 127, "CPZ", 128, "CSO"}, {impl.OpInc, 1, 255, "", 0, "ZP"}, {impl.OpInc, 1, 255, "CSO", 0, "CZP"}, {impl.OpInc, 1, -1, "", 0, "ZP"},
		{impl.OpInc, 2, 255, "", 256, "P"}, {impl.OpInc, 2, 32767, "", 32768, "SPO"}, {impl.OpInc, 2, 65535, "C", 0, "CZP"}, {impl.OpInc, 4, 2147483647, "C", 2147483648, "CSPO"}, {impl.OpInc, 4, 4294967295, "", 0, "ZP"}, {impl.OpInc, 8, math.MaxInt, "", math.MinInt, "SPO"}, {impl.OpInc, 8, -1, "", 0, "ZP"}, {impl.OpInc, 8, 4294967295, "C", 4294967296, "CP"},
		{impl.OpDec, 1, 1, "", 0, "ZP"}, {impl.OpDec, 1, 1, "C", 0, "CZP"}, {impl.OpDec, 1, 0, "", 255, "SP"}, {impl.OpDec, 1, 0, "CZ", 255, "CSP"}, {impl.OpDec, 1, 128, "", 127, "O"}, {impl.OpDec, 1, 256, "C", 255, "CSP"},
		{impl.OpDec, 2, 0, "", 65535, "SP"}, {impl.OpDec, 2, 32768, "C", 32767, "CPO"}, {impl.OpDec, 4, 0, "C", 4294967295, "CSP"}, {impl.OpDec, 4, -2147483648, "", 2147483647, "PO"}, {impl.OpDec, 8, math.MinInt, "", math.MaxInt, "PO"}, {impl.OpDec, 8, 0, "", -1, "SP"},
	} {
		if n, flags, code := impl.One(v.op, v.size, v.a, fl(v.flags)); n != v.want || flags != fl(v.then) || code != impl.OK {
			t.Errorf("One(%s, %d, %d, %q) = %d, %d, %d, want %d, %q", impl.OpName(v.op), v.size, v.a, v.flags, n, flags, code, v.want, v.then)
		}
	}
}

func TestOneOfAll(t *testing.T) {
	for _, size := range sizes {
		for _, a := range append(edgesOf(size), upTo(256)...) {
			for _, op := range oneOps {
				for _, before := range flagSums() {
					want, then := oneModel(op, size, a, before)
					if n, flags, code := impl.One(op, size, a, before); n != want || flags != then || code != impl.OK {
						t.Fatalf("One(%s, %d, %d, %d) = %d, %d, %d, want %d, %d", impl.OpName(op), size, a, before, n, flags, code, want, then)
					}
				}
			}
		}
	}
}

// TestHolds tells of each condition with which flags it holds, and with which it does not.
func TestHolds(t *testing.T) {
	for cond, v := range []struct{ on, off []string }{
		{[]string{"O", "CPZSO"}, []string{"", "CPZS"}}, {[]string{"", "CPZS"}, []string{"O", "CPZSO"}},
		{[]string{"C", "CPZSO"}, []string{"", "PZSO"}}, {[]string{"", "PZSO"}, []string{"C", "CPZSO"}},
		{[]string{"Z", "CPZSO"}, []string{"", "CPSO"}}, {[]string{"", "CPSO"}, []string{"Z", "CPZSO"}},
		{[]string{"C", "Z", "CZ", "CPZSO"}, []string{"", "PSO"}}, {[]string{"", "PSO"}, []string{"C", "Z", "CZ", "CPZSO"}},
		{[]string{"S", "CPZSO"}, []string{"", "CPZO"}}, {[]string{"", "CPZO"}, []string{"S", "CPZSO"}},
		{[]string{"P", "CPZSO"}, []string{"", "CZSO"}}, {[]string{"", "CZSO"}, []string{"P", "CPZSO"}},
		{[]string{"S", "O", "CPZS", "CPZO"}, []string{"", "SO", "CPZ", "CPZSO"}}, {[]string{"", "SO", "CPZ", "CPZSO"}, []string{"S", "O", "CPZS", "CPZO"}},
		{[]string{"Z", "S", "O", "ZSO", "ZS", "ZO"}, []string{"", "SO", "CP", "CPSO"}}, {[]string{"", "SO", "CP", "CPSO"}, []string{"Z", "S", "O", "ZSO", "ZS", "ZO"}},
	} {
		for want, list := range map[bool][]string{true: v.on, false: v.off} {
			for _, flags := range list {
				if yes, code := impl.Holds(cond, fl(flags)); yes != want || code != impl.OK {
					t.Errorf("Holds(%d, %q) = %v, %d", cond, flags, yes, code)
				}
			}
		}
		for _, flags := range flagSums() {
			if yes, code := impl.Holds(cond, flags); yes != holdsModel(cond, flags) || code != impl.OK {
				t.Errorf("Holds(%d, %d) = %v, %d", cond, flags, yes, code)
			}
		}
	}
}

// TestConditionsOfComparisons looks that the conditions behind `cmp` compare two numbers, without a sign and with one.
func TestConditionsOfComparisons(t *testing.T) {
	for _, size := range sizes {
		for _, a := range edgesOf(size) {
			for _, b := range edgesOf(size) {
				_, flags, _ := impl.Alu(impl.OpCmp, size, a, b, 0)
				plain, sign := plainOf(a, size).Cmp(plainOf(b, size)), signedOf(a, size).Cmp(signedOf(b, size))
				for name, want := range map[string]bool{"b": plain < 0, "ae": plain >= 0, "e": plain == 0, "ne": plain != 0, "be": plain <= 0, "a": plain > 0, "l": sign < 0, "ge": sign >= 0, "le": sign <= 0, "g": sign > 0} {
					if yes, code := impl.Holds(impl.CondOf(name), flags); yes != want || code != impl.OK {
						t.Fatalf("%d %s %d of size %d: %v, %d", a, name, b, size, yes, code)
					}
				}
			}
		}
	}
}
