package tests

import (
	"math/big"
	"math/rand"
	"slices"
	"strings"

	"loop.example/g00664/impl"
)

const allOn = impl.FlC | impl.FlP | impl.FlZ | impl.FlS | impl.FlO

// The operations of each call of chapter 7.
var (
	aluOps    = []int{impl.OpAdd, impl.OpOr, impl.OpAdc, impl.OpSbb, impl.OpAnd, impl.OpSub, impl.OpXor, impl.OpCmp, impl.OpTest}
	oneOps    = []int{impl.OpNot, impl.OpNeg, impl.OpInc, impl.OpDec}
	shiftOps  = []int{impl.OpRol, impl.OpRor, impl.OpShl, impl.OpShr, impl.OpSar}
	timesOps  = []int{impl.OpMul, impl.OpImul1, impl.OpImul}
	divideOps = []int{impl.OpDiv, impl.OpIdiv}
)

// fl is the sum of the flags that are told by their letters.
func fl(letters string) int {
	sum := 0
	for _, letter := range letters {
		sum += map[rune]int{'C': 1, 'P': 4, 'Z': 64, 'S': 128, 'O': 2048}[letter]
	}
	return sum
}

// flagSums are all sums of flags.
func flagSums() []int {
	sums := []int{0}
	for _, flag := range []int{1, 4, 64, 128, 2048} {
		for _, sum := range slices.Clone(sums) {
			sums = append(sums, sum+flag)
		}
	}
	return sums
}

// flagIf is the flag, or none.
func flagIf(flag int, on bool) int {
	if on {
		return flag
	}
	return 0
}

// edgesOf are numbers about the bounds of a size, with a sign and without one, others, and some of which more is handed in.
func edgesOf(size int) []int {
	half := 1 << (8*size - 1)
	list := []int{0, 1, 2, 3, 7, 15, 16, 85, 100, 0x0101, 0x0103, half - 2, half - 1, half, half + 1, half + 2, -half - 1, -half, -half + 1, 2*half - 2, 2*half - 1, 2 * half, 2*half + 1, -1, -2, -3, -16, -100}
	list = append(list, 1<<(4*size), 1<<(4*size)-1, 1<<(4*size)+1, -1<<(4*size))
	source := rand.New(rand.NewSource(int64(size)))
	for range 8 {
		list = append(list, int(source.Uint64()))
	}
	return list
}

// firstsOf are edgesOf, but of size 1 all bytes.
func firstsOf(size int) []int {
	if size == 1 {
		return upTo(256)
	}
	return edgesOf(size)
}

// powerOf is 2 to so many bits.
func powerOf(bits int) *big.Int { return new(big.Int).Lsh(big.NewInt(1), uint(bits)) }

// plainOf is the number without a sign that the lowest size bytes of v are.
func plainOf(v, size int) *big.Int {
	n := new(big.Int).SetUint64(uint64(v))
	return n.Mod(n, powerOf(8*size))
}

// signedOf is the number with a sign that the lowest size bytes of v are.
func signedOf(v, size int) *big.Int {
	n := plainOf(v, size)
	if n.Bit(8*size-1) == 1 {
		n.Sub(n, powerOf(8*size))
	}
	return n
}

// lowestOf is n as it is told of a size, without a sign.
func lowestOf(n *big.Int, size int) int {
	return int(new(big.Int).Mod(n, powerOf(8*size)).Uint64())
}

// isPlain and isSigned tell whether size bytes hold n.
func isPlain(n *big.Int, size int) bool  { return n.Cmp(plainOf(lowestOf(n, size), size)) == 0 }
func isSigned(n *big.Int, size int) bool { return n.Cmp(signedOf(lowestOf(n, size), size)) == 0 }

// bitsOf is the lowest size bytes of v as a text of their bits, the highest one first.
func bitsOf(v, size int) string {
	text := plainOf(v, size).Text(2)
	return strings.Repeat("0", 8*size-len(text)) + text
}

// numberOf is the number that bits tell.
func numberOf(text string) int {
	n, _ := new(big.Int).SetString(text, 2)
	return int(n.Uint64())
}

// flagsOfBits are FlS, FlZ and FlP.
func flagsOfBits(text string) int {
	return flagIf(impl.FlS, text[0] == '1') + flagIf(impl.FlZ, !strings.Contains(text, "1")) + flagIf(impl.FlP, strings.Count(text[len(text)-8:], "1")%2 == 0)
}

// summedBy reckons a and b, or a and -b, and what is carried, as numbers that have no bounds.
func summedBy(size, a, b, sign, carry int) (int, int) {
	sum := func(read func(v, size int) *big.Int) *big.Int {
		other := new(big.Int).Add(read(b, size), big.NewInt(int64(carry)))
		return other.Add(other.Mul(other, big.NewInt(int64(sign))), read(a, size))
	}
	plain, signed := sum(plainOf), sum(signedOf)
	v := lowestOf(plain, size)
	return v, flagsOfBits(bitsOf(v, size)) + flagIf(impl.FlC, !isPlain(plain, size)) + flagIf(impl.FlO, !isSigned(signed, size))
}

// bitByBit makes of each two bits one.
func bitByBit(size, a, b int, of func(x, y bool) bool) (int, int) {
	bits, others := []byte(bitsOf(a, size)), bitsOf(b, size)
	for i := range bits {
		bits[i] = '0' + byte(flagIf(1, of(bits[i] == '1', others[i] == '1')))
	}
	return numberOf(string(bits)), flagsOfBits(string(bits))
}

// aluModel is what Alu answers of an operation that it has.
func aluModel(op, size, a, b, flags int) (int, int) {
	switch op {
	case impl.OpAdd:
		return summedBy(size, a, b, 1, 0)
	case impl.OpAdc:
		return summedBy(size, a, b, 1, flags&impl.FlC)
	case impl.OpSub:
		return summedBy(size, a, b, -1, 0)
	case impl.OpSbb:
		return summedBy(size, a, b, -1, flags&impl.FlC)
	case impl.OpOr:
		return bitByBit(size, a, b, func(x, y bool) bool { return x || y })
	case impl.OpAnd:
		return bitByBit(size, a, b, func(x, y bool) bool { return x && y })
	case impl.OpXor:
		return bitByBit(size, a, b, func(x, y bool) bool { return x != y })
	case impl.OpCmp:
		_, flags = summedBy(size, a, b, -1, 0)
	case impl.OpTest:
		_, flags = bitByBit(size, a, b, func(x, y bool) bool { return x && y })
	}
	return lowestOf(plainOf(a, size), size), flags
}

// oneModel is what One answers of an operation that it has.
func oneModel(op, size, a, flags int) (int, int) {
	var v, now int
	switch op {
	case impl.OpNot:
		v, _ = bitByBit(size, a, 0, func(x, _ bool) bool { return !x })
		return v, flags
	case impl.OpNeg:
		return summedBy(size, 0, a, -1, 0)
	case impl.OpInc:
		v, now = summedBy(size, a, 1, 1, 0)
	case impl.OpDec:
		v, now = summedBy(size, a, 1, -1, 0)
	}
	return v, now&^impl.FlC | flags&impl.FlC
}

// shiftModel is one shift by one.
func shiftModel(op int, old string, flags int) (string, int) {
	last := len(old) - 1
	var now string
	var out byte
	switch op {
	case impl.OpShl:
		now, out = old[1:]+"0", old[0]
	case impl.OpRol:
		now, out = old[1:]+old[:1], old[0]
	case impl.OpShr:
		now, out = "0"+old[:last], old[last]
	case impl.OpSar:
		now, out = old[:1]+old[:last], old[last]
	case impl.OpRor:
		now, out = old[last:]+old[:last], old[last]
	}
	overflow := map[int]bool{impl.OpShl: now[0] != out, impl.OpRol: now[0] != out, impl.OpShr: old[0] == '1', impl.OpRor: now[0] != now[1]}[op]
	others := flagsOfBits(now)
	if op == impl.OpRol || op == impl.OpRor {
		others = flags &^ (impl.FlC | impl.FlO)
	}
	return now, others + flagIf(impl.FlC, out == '1') + flagIf(impl.FlO, overflow)
}

// readAs is how the numbers of an operation are read, and what tells whether they are held.
func readAs(op int) (read func(v, size int) *big.Int, holds func(n *big.Int, size int) bool) {
	if op == impl.OpMul || op == impl.OpDiv {
		return plainOf, isPlain
	}
	return signedOf, isSigned
}

// timesModel is what Multiply answers of an operation that it has.
func timesModel(op, size, a, b, flags int) (int, int, int) {
	read, holds := readAs(op)
	product := new(big.Int).Mul(read(a, size), read(b, size))
	more := !holds(product, size)
	others := flags &^ (impl.FlC | impl.FlO)
	return lowestOf(product, size), lowestOf(new(big.Int).Rsh(product, uint(8*size)), size), others + flagIf(impl.FlC|impl.FlO, more)
}

// divideModel is what Divide answers of an operation that it has.
func divideModel(op, size, high, low, d int) (int, int, int) {
	read, holds := readAs(op)
	number, by := new(big.Int).Mul(read(high, size), powerOf(8*size)), read(d, size)
	number.Add(number, plainOf(low, size))
	if by.Sign() == 0 {
		return 0, 0, impl.ErrDivide
	}
	quotient, rest := new(big.Int).QuoRem(number, by, new(big.Int))
	if !holds(quotient, size) {
		return 0, 0, impl.ErrDivide
	}
	return lowestOf(quotient, size), lowestOf(rest, size), impl.OK
}

// holdsModel is what Holds answers of a condition.
func holdsModel(cond, flags int) bool {
	on := func(flag int) bool { return flags&flag != 0 }
	switch chapterConds[cond] {
	case "o":
		return on(impl.FlO)
	case "no":
		return !on(impl.FlO)
	case "b":
		return on(impl.FlC)
	case "ae":
		return !on(impl.FlC)
	case "e":
		return on(impl.FlZ)
	case "ne":
		return !on(impl.FlZ)
	case "be":
		return on(impl.FlC) || on(impl.FlZ)
	case "a":
		return !on(impl.FlC) && !on(impl.FlZ)
	case "s":
		return on(impl.FlS)
	case "ns":
		return !on(impl.FlS)
	case "p":
		return on(impl.FlP)
	case "np":
		return !on(impl.FlP)
	case "l":
		return on(impl.FlS) != on(impl.FlO)
	case "ge":
		return on(impl.FlS) == on(impl.FlO)
	case "le":
		return on(impl.FlZ) || on(impl.FlS) != on(impl.FlO)
	}
	return !on(impl.FlZ) && on(impl.FlS) == on(impl.FlO)
}
