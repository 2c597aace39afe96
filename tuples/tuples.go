// Package tuples: schemas, their tuples, and the codes of tuples.
package tuples

import (
	"strings"

	"trellis/api"
)

// IsSchema tells whether these numbers are a schema. The other functions of the package take nothing else for one.
func IsSchema(schema []int) bool {
	if len(schema) < 1 || len(schema) > api.MaxFields {
		return false
	}
	for _, kind := range schema {
		if kind < api.U8 || kind > api.Text {
			return false
		}
	}
	return true
}

// IsTuple tells whether these values are a tuple of the schema.
func IsTuple(schema []int, tuple []api.Value) bool {
	if len(tuple) != len(schema) {
		return false
	}
	for i, kind := range schema {
		if !fits(kind, tuple[i]) {
			return false
		}
	}
	return true
}

func fits(kind int, v api.Value) bool {
	switch {
	case kind == api.Text:
		return v.U == 0 && v.I == 0
	case signed(kind):
		return v.U == 0 && v.S == "" && short(kind, raised(kind, v.I))
	}
	return v.I == 0 && v.S == "" && short(kind, v.U)
}

// Code makes the code of a tuple.
func Code(schema []int, tuple []api.Value) string {
	var code strings.Builder
	for i, kind := range schema {
		switch {
		case kind == api.Text:
			writeText(&code, tuple[i].S)
		case signed(kind):
			writeNumber(&code, kind, raised(kind, tuple[i].I))
		default:
			writeNumber(&code, kind, tuple[i].U)
		}
	}
	return code.String()
}

// Read makes the tuple of a code. It tells whether the text is one.
func Read(schema []int, text string) ([]api.Value, bool) {
	tuple := make([]api.Value, len(schema))
	for i, kind := range schema {
		v, rest, ok := read(kind, text)
		if !ok {
			return nil, false
		}
		tuple[i], text = v, rest
	}
	if text != "" {
		return nil, false
	}
	return tuple, true
}

// read takes a value from a text's beginning. It tells what is behind that, and whether there was one.
func read(kind int, text string) (api.Value, string, bool) {
	if kind == api.Text {
		s, rest, ok := readText(text)
		return api.Value{S: s}, rest, ok
	}
	n, rest, ok := readNumber(kind, text)
	if signed(kind) {
		return api.Value{I: lowered(kind, n)}, rest, ok
	}
	return api.Value{U: n}, rest, ok
}
