package tuples

import (
	"strings"

	"trellis/api"
)

func signed(kind int) bool { return kind >= api.I8 && kind <= api.I64 }

// width is how many bytes the code of a kind's number has.
func width(kind int) int {
	switch kind {
	case api.U8, api.I8:
		return 1
	case api.U16, api.I16:
		return 2
	case api.U32, api.I32:
		return 4
	}
	return 8
}

// half is what is added to a number with a sign, so that the least one of its kind becomes 0.
func half(kind int) uint64 { return 1 << (8*width(kind) - 1) }

// raised wraps round for what is below the least one: that is too great for the kind then.
func raised(kind int, n int64) uint64 { return uint64(n) + half(kind) }

func lowered(kind int, n uint64) int64 { return int64(n - half(kind)) }

// short tells whether the kind's bytes hold the number.
func short(kind int, n uint64) bool { return n>>(8*width(kind)) == 0 }

func writeNumber(code *strings.Builder, kind int, n uint64) {
	for i := width(kind) - 1; i >= 0; i-- {
		code.WriteByte(byte(n >> (8 * i)))
	}
}

func readNumber(kind int, text string) (n uint64, rest string, ok bool) {
	if len(text) < width(kind) {
		return 0, "", false
	}
	for i := range width(kind) {
		n = n<<8 | uint64(text[i])
	}
	return n, text[width(kind):], true
}
