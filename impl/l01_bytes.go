package impl

import (
	"errors"
	"math/bits"
	"strconv"
	"strings"
)

const hexDigits = "0123456789abcdef"

var (
	errRange = errors.New("out of its bounds")
	errEnd   = errors.New("cut off")
)

// boundError names the number that is wrong; the cause it wraps decides the code.
type boundError struct {
	what   string
	number int
	cause  error
}

func (e boundError) Error() string {
	return e.what + " " + strconv.Itoa(e.number) + ": " + e.cause.Error()
}

func (e boundError) Unwrap() error { return e.cause }

func boundCode(err error) int {
	switch {
	case err == nil:
		return OK
	case errors.Is(err, errEnd):
		return ErrEnd
	default:
		return ErrRange
	}
}

type sized interface {
	int8 | int16 | int32 | int64 | uint8 | uint16 | uint32 | uint64
}

// cut keeps as much of v as a T holds.
func cut[T sized](v int) int { return int(T(v)) }

// fits tells whether a T holds v.
func fits[T sized](v int) bool { return v == cut[T](v) }

func noSize(size int) error { return boundError{"size", size, errRange} }

func checkSize(size int) error {
	switch size {
	case 1, 2, 4, 8:
		return nil
	}
	return noSize(size)
}

// checkSpan asks whether size bytes from at on lie in t; size is a size, so that the difference cannot wrap.
func checkSpan(t string, at, size int) error {
	if at < 0 || at > len(t)-size {
		return boundError{"place", at, errEnd}
	}
	return nil
}

func signed(v, size int) (int, error) {
	switch size {
	case 1:
		return cut[int8](v), nil
	case 2:
		return cut[int16](v), nil
	case 4:
		return cut[int32](v), nil
	case 8:
		return cut[int64](v), nil
	}
	return 0, noSize(size)
}

func unsigned(v, size int) (int, error) {
	switch size {
	case 1:
		return cut[uint8](v), nil
	case 2:
		return cut[uint16](v), nil
	case 4:
		return cut[uint32](v), nil
	case 8:
		return cut[uint64](v), nil
	}
	return 0, noSize(size)
}

func takeLittle(t string, at, size int) (int, error) {
	if err := checkSize(size); err != nil {
		return 0, err
	}
	if err := checkSpan(t, at, size); err != nil {
		return 0, err
	}
	n := 0
	for i := range size {
		n |= int(t[at+i]) << (8 * i)
	}
	return n, nil
}

// SignOf is the lowest size bytes of v as a number with a sign.
func SignOf(v, size int) (int, int) {
	n, err := signed(v, size)
	return n, boundCode(err)
}

// ZeroOf is the lowest size bytes of v as a number without a sign; of 8 bytes it is v itself.
func ZeroOf(v, size int) (int, int) {
	n, err := unsigned(v, size)
	return n, boundCode(err)
}

// PutLittle is the lowest size bytes of v, the lowest one first.
func PutLittle(v, size int) (string, int) {
	if err := checkSize(size); err != nil {
		return "", boundCode(err)
	}
	out := make([]byte, size)
	for i := range out {
		out[i] = byte(v >> (8 * i))
	}
	return string(out), OK
}

// TakeLittle is the number without a sign (of 8 bytes with one) that size bytes of t from at on are, the lowest one first.
func TakeLittle(t string, at, size int) (int, int) {
	if len(t) > MaxText {
		return 0, ErrLong
	}
	n, err := takeLittle(t, at, size)
	return n, boundCode(err)
}

// HexOf is two digits a byte; the empty text of bytes whose digits would be more than MaxText.
func HexOf(t string) string {
	if len(t) > MaxText/2 {
		return ""
	}
	out := make([]byte, 0, 2*len(t))
	for i := range len(t) {
		out = append(out, hexDigits[t[i]>>4], hexDigits[t[i]&15])
	}
	return string(out)
}

// BytesOf is the bytes whose digits t is.
func BytesOf(t string) (string, int) {
	if len(t) > MaxText {
		return "", ErrLong
	}
	if len(t)%2 != 0 {
		return "", ErrForm
	}
	out := make([]byte, 0, len(t)/2)
	for i := 0; i < len(t); i += 2 {
		upper := strings.IndexByte(hexDigits, t[i])
		lower := strings.IndexByte(hexDigits, t[i+1])
		if upper < 0 || lower < 0 {
			return "", ErrForm
		}
		out = append(out, byte(16*upper+lower))
	}
	return string(out), OK
}

// BelowU tells whether a is below b as numbers without a sign.
func BelowU(a, b int) bool { return uint64(a) < uint64(b) }

// MulWide is the product of both without a sign: its upper 64 bits, then its lower ones.
func MulWide(a, b int) (int, int) {
	high, low := bits.Mul64(uint64(a), uint64(b))
	return int(high), int(low)
}

// DivideWide is quotient and rest of the number of 128 bits whose halves are high and low, by d, all without a sign.
func DivideWide(high, low, d int) (int, int, int) {
	// The quotient has more than 64 bits just if high is not below d, which a d of 0 never lets it be.
	if !BelowU(high, d) {
		return 0, 0, ErrDivide
	}
	quotient, rest := bits.Div64(uint64(high), uint64(low), uint64(d))
	return int(quotient), int(rest), OK
}
