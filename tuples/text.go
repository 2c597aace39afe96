package tuples

import "strings"

func writeText(code *strings.Builder, s string) {
	code.WriteString(strings.ReplaceAll(s, "\x00", "\x00\xff"))
	code.WriteString("\x00\x00")
}

// readText builds what it tells: a piece of the text would be its memory.
func readText(text string) (s string, rest string, ok bool) {
	var built strings.Builder
	for {
		// If there is no byte 00 at all, there is no mark behind it either.
		piece, behind, _ := strings.Cut(text, "\x00")
		built.WriteString(piece)
		switch {
		case strings.HasPrefix(behind, "\x00"):
			return built.String(), behind[1:], true
		case strings.HasPrefix(behind, "\xff"):
			built.WriteByte(0)
			text = behind[1:]
		default:
			return "", "", false
		}
	}
}
