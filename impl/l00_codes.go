package impl

const (
	MaxText = 65536
	MaxList = 4096
	MaxName = 20

	OK          = 0
	ErrBad      = 1
	ErrLong     = 2
	ErrForm     = 3
	ErrRange    = 4
	ErrNone     = 5
	ErrMany     = 6
	ErrFull     = 7
	ErrSize     = 8
	ErrEnd      = 9
	ErrPrefix   = 10
	ErrOpcode   = 11
	ErrOperand  = 12
	ErrPage     = 13
	ErrPerm     = 14
	ErrFetch    = 15
	ErrDivide   = 16
	ErrHalt     = 17
	ErrTrap     = 18
	ErrBundle   = 19
	ErrUnsafe   = 20
	ErrBase     = 21
	ErrStack    = 22
	ErrMask     = 23
	ErrDisp     = 24
	ErrIndirect = 25
	ErrTarget   = 26
	ErrCall     = 27
	ErrText     = 28
	ErrRip      = 29
	ErrMagic    = 30
	ErrSegment  = 31
	ErrEntry    = 32
	ErrFuel     = 33
	ErrService  = 34
	ErrDone     = 35
)

var codeWords = [36]string{
	"ok", "bad", "long", "form", "range", "none", "many", "full", "size",
	"end", "prefix", "opcode", "operand", "page", "perm", "fetch", "divide", "halt", "trap",
	"bundle", "unsafe", "base", "stack", "mask", "disp", "indirect", "target", "call", "text", "rip",
	"magic", "segment", "entry", "fuel", "service", "done",
}

func isLetter(b byte) bool {
	return 'a' <= b && b <= 'z' || 'A' <= b && b <= 'Z' || b == '_'
}

func isDigit(b byte) bool { return '0' <= b && b <= '9' }

// NameOK tells whether t is a name.
func NameOK(t string) bool {
	if len(t) == 0 || len(t) > MaxName || !isLetter(t[0]) {
		return false
	}
	for i := range len(t) {
		if !isLetter(t[i]) && !isDigit(t[i]) {
			return false
		}
	}
	return true
}

// CodeWord is the word of a code, and the empty text of any other number.
func CodeWord(code int) string {
	if code < 0 || code >= len(codeWords) {
		return ""
	}
	return codeWords[code]
}

// CodeOf is the code of a word, and -1 of any other text.
func CodeOf(word string) int {
	for code, w := range codeWords {
		if w == word {
			return code
		}
	}
	return -1
}
