package tests

import (
	"fmt"
	"math"
	"math/big"
	"slices"
	"testing"

	"loop.example/g00664/impl"
)

// TestSumsWithTheirCarry holds for P6: the sum and what is carried out of it are a and b and what was carried in; likewise of differences.
func TestSumsWithTheirCarry(t *testing.T) {
	for _, size := range sizes {
		for _, a := range edgesOf(size) {
			for _, b := range edgesOf(size) {
				for _, v := range []struct{ op, flags, sign, carry int }{{impl.OpAdd, 0, 1, 0}, {impl.OpAdd, allOn, 1, 0}, {impl.OpAdc, 0, 1, 0}, {impl.OpAdc, allOn, 1, 1}, {impl.OpSub, allOn, -1, 0}, {impl.OpSbb, 0, -1, 0}, {impl.OpSbb, allOn, -1, 1}} {
					n, flags, code := impl.Alu(v.op, size, a, b, v.flags)
					want := new(big.Int).Add(plainOf(b, size), big.NewInt(int64(v.carry)))
					want.Add(want.Mul(want, big.NewInt(int64(v.sign))), plainOf(a, size))
					got := new(big.Int).Mul(powerOf(8*size), big.NewInt(int64(v.sign*(flags&impl.FlC))))
					if got.Add(got, plainOf(n, size)); got.Cmp(want) != 0 || code != impl.OK {
						t.Fatalf("Alu(%s, %d, %d, %d, %d) = %d, %d, %d: %v, want %v", impl.OpName(v.op), size, a, b, v.flags, n, flags, code, got, want)
					}
				}
			}
		}
	}
}

// TestWhatIsAddedIsTakenAwayAgain holds for P6, with a carry and without one, and the other way round; what is carried and what is borrowed are alike.
func TestWhatIsAddedIsTakenAwayAgain(t *testing.T) {
	for _, size := range sizes {
		for _, a := range edgesOf(size) {
			want := lowestOf(plainOf(a, size), size)
			for _, b := range edgesOf(size) {
				for _, pair := range [][2]int{{impl.OpAdd, impl.OpSub}, {impl.OpSub, impl.OpAdd}, {impl.OpAdc, impl.OpSbb}, {impl.OpSbb, impl.OpAdc}} {
					for _, before := range []int{0, impl.FlC, allOn} {
						there, flags, _ := impl.Alu(pair[0], size, a, b, before)
						back, again, code := impl.Alu(pair[1], size, there, b, before)
						if back != want || code != impl.OK || (flags^again)&(impl.FlC|impl.FlO) != 0 {
							t.Fatalf("%s and %s of size %d of %d and %d: %d, %d, then %d, %d", impl.OpName(pair[0]), impl.OpName(pair[1]), size, a, b, there, flags, back, again)
						}
					}
				}
			}
			for _, pair := range [][2]int{{impl.OpInc, impl.OpDec}, {impl.OpDec, impl.OpInc}, {impl.OpNeg, impl.OpNeg}, {impl.OpNot, impl.OpNot}} {
				there, _, _ := impl.One(pair[0], size, a, 0)
				if back, _, code := impl.One(pair[1], size, there, 0); back != want || code != impl.OK {
					t.Fatalf("%s and %s of size %d of %d: %d, then %d", impl.OpName(pair[0]), impl.OpName(pair[1]), size, a, there, back)
				}
			}
		}
	}
}

// TestLongSums adds and takes away numbers of 64 bits part by part, each with the carry of the one ahead.
func TestLongSums(t *testing.T) {
	for _, size := range []int{1, 2, 4} {
		for _, a := range edgesOf(8) {
			for _, b := range edgesOf(8) {
				for _, v := range []struct{ first, then, want int }{{impl.OpAdd, impl.OpAdc, a + b}, {impl.OpSub, impl.OpSbb, a - b}} {
					op, flags, sum := v.first, 0, 0
					for at := 0; at < 64; at += 8 * size {
						part, now, _ := impl.Alu(op, size, a>>at, b>>at, flags)
						op, flags, sum = v.then, now, sum|part<<at
					}
					_, want, _ := impl.Alu(v.first, 8, a, b, 0)
					if sum != v.want || (flags^want)&(impl.FlC|impl.FlS|impl.FlO) != 0 {
						t.Fatalf("%s of %d and %d by size %d: %d, %d, want %d, %d", impl.OpName(v.first), a, b, size, sum, flags, v.want, want)
					}
				}
			}
		}
	}
}

// TestProductsDivided holds for P6: the halves of a product, divided by one of the numbers (that is not 0), are the other one.
func TestProductsDivided(t *testing.T) {
	for _, size := range sizes {
		for _, a := range edgesOf(size) {
			for _, b := range edgesOf(size) {
				if plainOf(b, size).Sign() == 0 {
					continue
				}
				for _, pair := range [][2]int{{impl.OpMul, impl.OpDiv}, {impl.OpImul1, impl.OpIdiv}, {impl.OpImul, impl.OpIdiv}} {
					for _, turned := range []bool{false, true} {
						x, y := a, b
						if turned {
							x, y = b, a
						}
						low, high, _, _ := impl.Multiply(pair[0], size, x, y, allOn)
						if quotient, rest, code := impl.Divide(pair[1], size, high, low, b); quotient != lowestOf(plainOf(a, size), size) || rest != 0 || code != impl.OK {
							t.Fatalf("%s of size %d of %d and %d: %d, %d; divided %d, %d, %d", impl.OpName(pair[0]), size, x, y, low, high, quotient, rest, code)
						}
					}
				}
			}
		}
	}
}

// TestQuotientTimesDivisorAndRest puts together again what was divided.
func TestQuotientTimesDivisorAndRest(t *testing.T) {
	for _, size := range sizes {
		for _, pair := range [][2]int{{impl.OpDiv, impl.OpMul}, {impl.OpIdiv, impl.OpImul1}} {
			for _, d := range edgesOf(size) {
				for _, half := range halvesOf(size, d) {
					quotient, rest, code := impl.Divide(pair[0], size, half[0], half[1], d)
					if code != impl.OK {
						continue
					}
					above, _ := impl.SignOf(rest, size)
					above >>= 63
					if pair[0] == impl.OpDiv {
						above = 0
					}
					low, high, _, _ := impl.Multiply(pair[1], size, quotient, d, 0)
					low, flags, _ := impl.Alu(impl.OpAdd, size, low, rest, 0)
					high, _, _ = impl.Alu(impl.OpAdc, size, high, above, flags)
					if low != lowestOf(plainOf(half[1], size), size) || high != lowestOf(plainOf(half[0], size), size) {
						t.Fatalf("Divide(%s, %d, %d, %d, %d) = %d, %d: together %d, %d", impl.OpName(pair[0]), size, half[0], half[1], d, quotient, rest, high, low)
					}
				}
			}
		}
	}
}

// TestContraryConditions holds for P6: of two contrary conditions just one holds.
func TestContraryConditions(t *testing.T) {
	for cond := 0; cond < 16; cond += 2 {
		for _, flags := range flagSums() {
			yes, code := impl.Holds(cond, flags)
			no, contrary := impl.Holds(cond+1, flags)
			if yes == no || code != impl.OK || contrary != impl.OK {
				t.Errorf("with %d: Holds of %d is %v, %d, of %d %v, %d", flags, cond, yes, code, cond+1, no, contrary)
			}
		}
	}
}

// noFlags are numbers that are no sum of flags.
var noFlags = []int{2, 3, 8, 16, 32, 256, 512, 1024, 4096, 2 + allOn, 4096 + allOn, 1 << 32, 1<<32 + 1, -1, -2, -2048, -allOn, math.MinInt, math.MinInt + 1, math.MaxInt}

// TestNoFlags looks at each number from 0 to 8191, of which just 32 are sums of flags.
func TestNoFlags(t *testing.T) {
	sums := flagSums()
	for flags := range 8192 {
		want := impl.ErrRange
		if slices.Contains(sums, flags) {
			want = impl.OK
		}
		if _, _, code := impl.Alu(impl.OpAdd, 4, 1, 2, flags); code != want {
			t.Errorf("Alu with flags %d: %d", flags, code)
		}
		if _, code := impl.Holds(0, flags); code != want {
			t.Errorf("Holds with flags %d: %d", flags, code)
		}
	}
}

// anOperation is a call of chapter 7 that has an operation; one that has no flags asks nothing of them.
type anOperation struct {
	name     string
	ops      []int
	hasFlags bool
	make     func(op, size, flags int) (told [3]int, code int)
}

// operationsWith are the calls that have an operation, with two numbers.
func operationsWith(a, b int) []anOperation {
	return []anOperation{
		{"Alu", aluOps, true, func(op, size, flags int) (told [3]int, code int) {
			told[0], told[1], code = impl.Alu(op, size, a, b, flags)
			return told, code
		}},
		{"One", oneOps, true, func(op, size, flags int) (told [3]int, code int) {
			told[0], told[1], code = impl.One(op, size, a, flags)
			return told, code
		}},
		{"Shift", shiftOps, true, func(op, size, flags int) (told [3]int, code int) {
			told[0], told[1], code = impl.Shift(op, size, a, b, flags)
			return told, code
		}},
		{"Multiply", timesOps, true, func(op, size, flags int) (told [3]int, code int) {
			told[0], told[1], told[2], code = impl.Multiply(op, size, a, b, flags)
			return told, code
		}},
		{"Divide", divideOps, false, func(op, size, flags int) (told [3]int, code int) {
			told[0], told[1], code = impl.Divide(op, size, 0, a, b)
			return told, code
		}},
	}
}

// anyOps are all operations, and numbers that are none.
func anyOps() []int {
	return slices.Concat(upTo(impl.OpInt+3), []int{-1, -2, -20, 64, 255, 256 + impl.OpAdd, 1<<32 + impl.OpAdd, math.MinInt, math.MinInt + impl.OpMul, math.MaxInt})
}

// TestFaultsOfOperations tells the code of each operation with each size and flags, right ones and wrong ones: ErrRange comes first, then ErrOpcode, and ErrDivide last.
func TestFaultsOfOperations(t *testing.T) {
	anySizes, anyFlags := slices.Concat(sizes, noSizes), slices.Concat(flagSums(), noFlags)
	for _, b := range []int{0, 3} {
		for _, c := range operationsWith(5, b) {
			for _, op := range anyOps() {
				for _, size := range anySizes {
					for _, flags := range anyFlags {
						want := impl.OK
						switch {
						case !slices.Contains(sizes, size), c.hasFlags && slices.Contains(noFlags, flags):
							want = impl.ErrRange
						case !slices.Contains(c.ops, op):
							want = impl.ErrOpcode
						case c.name == "Divide" && b == 0:
							want = impl.ErrDivide
						}
						if told, code := c.make(op, size, flags); code != want || code != impl.OK && told != [3]int{} {
							t.Fatalf("%s of operation %d, size %d, flags %d, with %d: %v, %d, want %d", c.name, op, size, flags, b, told, code, want)
						}
					}
				}
			}
		}
	}
}

// TestFaultsOfFlags are those of the calls that have no operation.
func TestFaultsOfFlags(t *testing.T) {
	for _, size := range noSizes {
		for _, v := range edgeNumbers() {
			if flags, code := impl.FlagsOf(size, v); flags != 0 || code != impl.ErrRange {
				t.Errorf("FlagsOf(%d, %d) = %d, %d", size, v, flags, code)
			}
		}
	}
	wrongConds := []int{-1, -2, -16, 16, 17, 31, 32, 255, 256, 1 << 32, math.MinInt, math.MaxInt}
	for _, cond := range slices.Concat(upTo(16), wrongConds) {
		for _, flags := range slices.Concat(flagSums(), noFlags) {
			if slices.Contains(wrongConds, cond) || slices.Contains(noFlags, flags) {
				if yes, code := impl.Holds(cond, flags); yes || code != impl.ErrRange {
					t.Errorf("Holds(%d, %d) = %v, %d", cond, flags, yes, code)
				}
			}
		}
	}
}

// flagsCalls are the calls of chapter 7.
func flagsCalls() []call {
	var list []call
	add := func(make func() string, name ...any) { list = append(list, call{fmt.Sprint(name...), make}) }
	for _, a := range anyNumbers {
		for _, b := range anyNumbers {
			add(func() string { return fmt.Sprint(impl.FlagsOf(a, b)) }, "FlagsOf ", a, b)
			add(func() string { return fmt.Sprint(impl.Holds(a, b)) }, "Holds ", a, b)
		}
	}
	numbers := []int{0, 1, 8, 33, 128, -1, math.MinInt, math.MaxInt}
	for _, a := range numbers {
		for _, b := range numbers {
			for _, c := range operationsWith(a, b) {
				for _, op := range []int{0, c.ops[0], c.ops[1], c.ops[len(c.ops)-1], impl.OpMov, math.MinInt} {
					for _, size := range []int{0, 1, 2, 4, 8, -8} {
						for _, flags := range []int{0, allOn, 2, -1} {
							add(func() string { return fmt.Sprint(c.make(op, size, flags)) }, c.name, op, size, a, b, flags)
						}
					}
				}
			}
		}
	}
	return list
}

// TestAnyNumbersOfOperations holds for P1 and rule 7: any integers may be handed in, and the codes are those that chapter 7 names.
func TestAnyNumbersOfOperations(t *testing.T) {
	for _, a := range anyNumbers {
		for _, b := range anyNumbers {
			for _, op := range slices.Concat(anyNumbers, aluOps) {
				for _, size := range sizes {
					for _, high := range []int{a, 0, -1} {
						quotient, rest, code := impl.Divide(op, size, high, a, b)
						if code != impl.OK && (quotient != 0 || rest != 0 || code != impl.ErrOpcode && code != impl.ErrDivide) {
							t.Fatalf("Divide(%d, %d, %d, %d, %d) = %d, %d, %d", op, size, high, a, b, quotient, rest, code)
						}
					}
					for _, c := range operationsWith(a, b)[:4] {
						told, code := c.make(op, size, allOn)
						if code != impl.OK && (told != [3]int{} || code != impl.ErrOpcode) || code == impl.OK && !slices.Contains(c.ops, op) {
							t.Fatalf("%s of operation %d, size %d, of %d and %d: %v, %d", c.name, op, size, a, b, told, code)
						}
						if n, _ := impl.ZeroOf(told[0], size); n != told[0] {
							t.Fatalf("%s of operation %d, size %d, of %d and %d: %d has a sign", c.name, op, size, a, b, told[0])
						}
					}
				}
			}
		}
	}
}
