package trellis

import (
	"cmp"
	"math"
	"regexp"
	"slices"
	"strings"
	"sync"
	"testing"
	"unsafe"

	"trellis/api"
)

type tuple = []api.Value

func ofU(n uint64) api.Value { return api.Value{U: n} }

func ofI(n int64) api.Value { return api.Value{I: n} }

func ofS(s string) api.Value { return api.Value{S: s} }

// coded is a value with its code, written by hand.
type coded struct {
	v    api.Value
	code string
}

// someCoded has, of each kind, values in their order, the least and the greatest among them.
func someCoded() map[int][]coded {
	return map[int][]coded{
		api.U8:  {{ofU(0), "\x00"}, {ofU(1), "\x01"}, {ofU(127), "\x7f"}, {ofU(128), "\x80"}, {ofU(254), "\xfe"}, {ofU(255), "\xff"}},
		api.U16: {{ofU(0), "\x00\x00"}, {ofU(255), "\x00\xff"}, {ofU(256), "\x01\x00"}, {ofU(258), "\x01\x02"}, {ofU(65535), "\xff\xff"}},
		api.U32: {{ofU(0), "\x00\x00\x00\x00"}, {ofU(255), "\x00\x00\x00\xff"}, {ofU(0x01020304), "\x01\x02\x03\x04"}, {ofU(1<<32 - 1), "\xff\xff\xff\xff"}},
		api.U64: {
			{ofU(0), "\x00\x00\x00\x00\x00\x00\x00\x00"}, {ofU(0x0102030405060708), "\x01\x02\x03\x04\x05\x06\x07\x08"},
			{ofU(1 << 63), "\x80\x00\x00\x00\x00\x00\x00\x00"}, {ofU(math.MaxUint64), "\xff\xff\xff\xff\xff\xff\xff\xff"},
		},
		api.I8:  {{ofI(-128), "\x00"}, {ofI(-127), "\x01"}, {ofI(-1), "\x7f"}, {ofI(0), "\x80"}, {ofI(1), "\x81"}, {ofI(127), "\xff"}},
		api.I16: {{ofI(-32768), "\x00\x00"}, {ofI(-256), "\x7f\x00"}, {ofI(-1), "\x7f\xff"}, {ofI(0), "\x80\x00"}, {ofI(258), "\x81\x02"}, {ofI(32767), "\xff\xff"}},
		api.I32: {
			{ofI(-1 << 31), "\x00\x00\x00\x00"}, {ofI(-1), "\x7f\xff\xff\xff"}, {ofI(0), "\x80\x00\x00\x00"},
			{ofI(0x01020304), "\x81\x02\x03\x04"}, {ofI(1<<31 - 1), "\xff\xff\xff\xff"},
		},
		api.I64: {
			{ofI(math.MinInt64), "\x00\x00\x00\x00\x00\x00\x00\x00"}, {ofI(-1 << 32), "\x7f\xff\xff\xff\x00\x00\x00\x00"},
			{ofI(-1), "\x7f\xff\xff\xff\xff\xff\xff\xff"}, {ofI(0), "\x80\x00\x00\x00\x00\x00\x00\x00"},
			{ofI(0x0102030405060708), "\x81\x02\x03\x04\x05\x06\x07\x08"}, {ofI(math.MaxInt64), "\xff\xff\xff\xff\xff\xff\xff\xff"},
		},
		api.Text: {
			{ofS(""), "\x00\x00"}, {ofS("\x00"), "\x00\xff\x00\x00"}, {ofS("\x00\x00"), "\x00\xff\x00\xff\x00\x00"},
			{ofS("\x00\x00\xff"), "\x00\xff\x00\xff\xff\x00\x00"}, {ofS("\x00\x01"), "\x00\xff\x01\x00\x00"}, {ofS("\x00a"), "\x00\xffa\x00\x00"},
			{ofS("\x00\xff"), "\x00\xff\xff\x00\x00"}, {ofS("\x00\xff\x00"), "\x00\xff\xff\x00\xff\x00\x00"}, {ofS("\x01"), "\x01\x00\x00"},
			{ofS("a"), "a\x00\x00"}, {ofS("a\x00"), "a\x00\xff\x00\x00"}, {ofS("a\x00\x00b"), "a\x00\xff\x00\xffb\x00\x00"},
			{ofS("a\x00b"), "a\x00\xffb\x00\x00"}, {ofS("a\x01"), "a\x01\x00\x00"}, {ofS("ab"), "ab\x00\x00"}, {ofS("a\xff"), "a\xff\x00\x00"},
			{ofS("a\xffb"), "a\xffb\x00\x00"}, {ofS("é"), "\xc3\xa9\x00\x00"}, {ofS("\xff"), "\xff\x00\x00"}, {ofS("\xff\x00"), "\xff\x00\xff\x00\x00"},
			{ofS("\xff\x00\xff"), "\xff\x00\xff\xff\x00\x00"}, {ofS("\xffa"), "\xffa\x00\x00"}, {ofS("\xff\xff"), "\xff\xff\x00\x00"},
		},
	}
}

func mustEncode(t *testing.T, schema []int, values tuple, want string) {
	t.Helper()
	if code, e := Encode(schema, values); code != want || e != api.OK {
		t.Fatalf("P8: Encode(%v, %+v) = %x, %d, want %x", schema, values, code, e, want)
	}
}

func mustDecode(t *testing.T, schema []int, code string, want tuple) {
	t.Helper()
	if values, e := Decode(schema, code); !slices.Equal(values, want) || e != api.OK {
		t.Fatalf("P8: Decode(%v, %x) = %+v, %d, want %+v", schema, code, values, e, want)
	}
}

// mustRefuse: beside the error there is nothing.
func mustRefuse(t *testing.T, schema []int, text string, want api.Errno) {
	t.Helper()
	if values, e := Decode(schema, text); values != nil || e != want {
		t.Fatalf("P8, P1: Decode(%v, %x) = %+v, %d, want nothing, %d", schema, text, values, e, want)
	}
}

func mustNotEncode(t *testing.T, schema []int, values tuple, want api.Errno) {
	t.Helper()
	if code, e := Encode(schema, values); code != "" || e != want {
		t.Fatalf("P8, P1: Encode(%v, %+v) = %x, %d, want nothing, %d", schema, values, code, e, want)
	}
}

// mustMatch looks at a tuple and its code, and at what is nearly the code.
func mustMatch(t *testing.T, schema []int, values tuple, code string) {
	t.Helper()
	mustEncode(t, schema, values, code)
	mustDecode(t, schema, code, values)
	for i := range code {
		mustRefuse(t, schema, code[:i], api.ErrForm)
	}
	for _, more := range []string{"\x00", "\x01", "a", "\xff", "\x00\x00", "\x00\xff", code} {
		mustRefuse(t, schema, code+more, api.ErrForm)
	}
}

func TestTupleExamples(t *testing.T) {
	mustEncode(t, []int{api.U16, api.I8, api.Text}, tuple{ofU(258), ofI(-1), ofS("a\x00")}, "\x01\x02\x7f\x61\x00\xff\x00\x00")
	mustDecode(t, []int{api.Text}, "\x00\x00", tuple{ofS("")})
	for _, text := range []string{"\x00\x01", "\x61", "\x00\x00\x00"} {
		mustRefuse(t, []int{api.Text}, text, api.ErrForm)
	}
}

func TestCodesOfOneValue(t *testing.T) {
	for kind, list := range someCoded() {
		for _, c := range list {
			mustMatch(t, []int{kind}, tuple{c.v}, c.code)
		}
	}
}

// TestCodesOfSeveral has each two values of each two kinds, with a text ahead, between and behind too.
func TestCodesOfSeveral(t *testing.T) {
	all := someCoded()
	text := coded{ofS("\x00x\xff\x00"), "\x00\xffx\xff\x00\xff\x00\x00"}
	for one, list := range all {
		for two, others := range all {
			for _, a := range list {
				for _, b := range others {
					mustMatch(t, []int{one, two}, tuple{a.v, b.v}, a.code+b.code)
					mustEncode(t, []int{api.Text, one, two}, tuple{text.v, a.v, b.v}, text.code+a.code+b.code)
					mustDecode(t, []int{one, api.Text, two}, a.code+text.code+b.code, tuple{a.v, text.v, b.v})
					mustDecode(t, []int{one, two, api.Text}, a.code+b.code+text.code, tuple{a.v, b.v, text.v})
				}
			}
		}
	}
}

// TestCodesOfMaxFields turns the kinds round, so that each stands at each place.
func TestCodesOfMaxFields(t *testing.T) {
	all := someCoded()
	for first := range api.Text {
		for step := range 30 {
			var schema []int
			var values tuple
			var code strings.Builder
			for i := range api.MaxFields {
				kind := (first+i)%api.Text + 1
				c := all[kind][(step+i)%len(all[kind])]
				schema, values = append(schema, kind), append(values, c.v)
				code.WriteString(c.code)
			}
			mustMatch(t, schema, values, code.String())
		}
	}
	texts, values := slices.Repeat([]int{api.Text}, api.MaxFields), make(tuple, api.MaxFields)
	mustMatch(t, texts, values, strings.Repeat("\x00\x00", api.MaxFields))
	values[2].S, values[5].S = "\x00", "\xff"
	mustMatch(t, texts, values, "\x00\x00\x00\x00\x00\xff\x00\x00\x00\x00\x00\x00\xff\x00\x00")
}

// TestEachSmallNumber has all numbers of one and of two bytes.
func TestEachSmallNumber(t *testing.T) {
	for n := range 1 << 8 {
		code := string([]byte{byte(n)})
		mustMatch(t, []int{api.U8}, tuple{ofU(uint64(n))}, code)
		mustMatch(t, []int{api.I8}, tuple{ofI(int64(n) - 1<<7)}, code)
	}
	for n := range 1 << 16 {
		code := string([]byte{byte(n >> 8), byte(n)})
		mustEncode(t, []int{api.U16}, tuple{ofU(uint64(n))}, code)
		mustEncode(t, []int{api.I16}, tuple{ofI(int64(n) - 1<<15)}, code)
		mustDecode(t, []int{api.U16}, code, tuple{ofU(uint64(n))})
		mustDecode(t, []int{api.I16}, code, tuple{ofI(int64(n) - 1<<15)})
	}
}

// TestLongCodes: a code may be too long for a key; that is Put's to say.
func TestLongCodes(t *testing.T) {
	for _, n := range []int{api.MaxKey - 2, api.MaxKey - 1, api.MaxKey, 1000, 1 << 20} {
		s := strings.Repeat("k", n)
		mustEncode(t, []int{api.Text}, tuple{ofS(s)}, s+"\x00\x00")
		mustDecode(t, []int{api.Text}, s+"\x00\x00", tuple{ofS(s)})
		mustRefuse(t, []int{api.Text}, s, api.ErrForm)
		mustRefuse(t, []int{api.Text}, s+"\x00", api.ErrForm)
		zeros, twice := strings.Repeat("\x00", n), strings.Repeat("\x00\xff", n)
		mustEncode(t, []int{api.Text, api.U8}, tuple{ofS(zeros), ofU(7)}, twice+"\x00\x00\x07")
		mustDecode(t, []int{api.Text, api.U8}, twice+"\x00\x00\x07", tuple{ofS(zeros), ofU(7)})
		mustRefuse(t, []int{api.Text, api.U8}, twice, api.ErrForm)
		_, _, e := New[int]().Put(s+"\x00\x00", 1)
		if long := n+2 > api.MaxKey; long != (e == api.ErrKey) {
			t.Errorf("P3: Put of a code of %d bytes: %d", n+2, e)
		}
	}
}

// notSchemas are what no call takes for a schema.
func notSchemas() [][]int {
	return [][]int{
		nil, {}, {0}, {10}, {-1}, {255}, {256 + 1}, {1<<32 + 1}, {math.MaxInt}, {math.MinInt}, {math.MinInt + 1},
		{1, 0}, {0, 1}, {1, 10}, {1, 1, 1, 1, 1, 0}, {9, -1, 9}, {9, 9, 9, 9, 9, 10},
		{1, 1, 1, 1, 1, 1, 1}, {9, 9, 9, 9, 9, 9, 9}, {1, 1, 1, 1, 1, 1, 0}, slices.Repeat([]int{api.U8}, 1000),
	}
}

func TestNoSchema(t *testing.T) {
	for _, l := range notSchemas() {
		wrong := append(make(tuple, len(l)), api.Value{U: 1, I: 1, S: "x"})
		for _, values := range []tuple{make(tuple, len(l)), nil, {ofU(1)}, wrong, wrong[len(l):]} {
			mustNotEncode(t, l, values, api.ErrSchema)
		}
		for _, text := range []string{"", "\x00", "\x00\x00", "\x00\x01", "a", strings.Repeat("\x00", len(l)), strings.Repeat("\x00", 2*len(l))} {
			mustRefuse(t, l, text, api.ErrSchema)
		}
	}
}

func TestWrongNumberOfValues(t *testing.T) {
	for kind, list := range someCoded() {
		for n := 1; n <= api.MaxFields; n++ {
			schema := slices.Repeat([]int{kind}, n)
			for k := range api.MaxFields + 3 {
				if k != n {
					mustNotEncode(t, schema, slices.Repeat(tuple{list[0].v}, k), api.ErrTuple)
				}
			}
			mustNotEncode(t, schema, nil, api.ErrTuple)
		}
	}
}

// notValues has, of each kind, what is no value of it.
func notValues() map[int]tuple {
	with := func(kind int, more ...api.Value) tuple {
		// Where the value itself is in order, the two others are not.
		for _, c := range someCoded()[kind] {
			for _, extra := range []api.Value{{U: 1}, {U: math.MaxUint64}, {I: 1}, {I: -1}, {I: math.MinInt64}, {S: "x"}, {S: "\x00"}, {U: 1, I: 1, S: "x"}} {
				v := c.v
				switch {
				case kind >= api.U8 && kind <= api.U64:
					v.I, v.S = extra.I, extra.S
				case kind >= api.I8 && kind <= api.I64:
					v.U, v.S = extra.U, extra.S
				default:
					v.U, v.I = extra.U, extra.I
				}
				if v != c.v {
					more = append(more, v)
				}
			}
		}
		return more
	}
	return map[int]tuple{
		api.U8:   with(api.U8, ofU(1<<8), ofU(1<<8+1), ofU(1<<16), ofU(1<<32), ofU(1<<63), ofU(math.MaxUint64)),
		api.U16:  with(api.U16, ofU(1<<16), ofU(1<<16+1), ofU(1<<32), ofU(math.MaxUint64)),
		api.U32:  with(api.U32, ofU(1<<32), ofU(1<<32+1), ofU(1<<40), ofU(math.MaxUint64)),
		api.U64:  with(api.U64),
		api.I8:   with(api.I8, ofI(1<<7), ofI(1<<8), ofI(-1<<7-1), ofI(-1<<8), ofI(-1<<8+1), ofI(math.MaxInt64), ofI(math.MinInt64)),
		api.I16:  with(api.I16, ofI(1<<15), ofI(1<<16), ofI(-1<<15-1), ofI(-1<<16), ofI(math.MaxInt64), ofI(math.MinInt64)),
		api.I32:  with(api.I32, ofI(1<<31), ofI(1<<32), ofI(-1<<31-1), ofI(-1<<32), ofI(math.MaxInt64), ofI(math.MinInt64)),
		api.I64:  with(api.I64),
		api.Text: with(api.Text),
	}
}

func TestNoTuple(t *testing.T) {
	for kind, wrong := range notValues() {
		for _, v := range wrong {
			mustNotEncode(t, []int{kind}, tuple{v}, api.ErrTuple)
			// Among values that are in order, at each place.
			for at := range api.MaxFields {
				schema, values := slices.Repeat([]int{api.U8}, api.MaxFields), make(tuple, api.MaxFields)
				schema[at], values[at] = kind, v
				mustNotEncode(t, schema, values, api.ErrTuple)
			}
			mustNotEncode(t, []int{kind, kind}, tuple{v}, api.ErrTuple)
			mustNotEncode(t, []int{kind}, tuple{v, v}, api.ErrTuple)
			mustNotEncode(t, []int{kind, api.Text + 1}, tuple{v, v}, api.ErrSchema)
		}
	}
}

// texts are all that are made of so many of these bytes, or fewer.
func texts(letters string, most int) []string {
	all, last := []string{""}, []string{""}
	for range most {
		var longer []string
		for _, s := range last {
			for i := range len(letters) {
				longer = append(longer, s+letters[i:i+1])
			}
		}
		all, last = append(all, longer...), longer
	}
	return all
}

// TestTextsThatAreCodes tells them by an expression, and Encode has to make them again.
func TestTextsThatAreCodes(t *testing.T) {
	const text = `((?:[\x01a\xff]|\x00\xff)*)\x00\x00`
	some := texts("\x00\x01a\xff", 6)
	for _, c := range []struct {
		schema []int
		form   string
	}{
		{[]int{api.Text}, text},
		{[]int{api.Text, api.Text}, text + text},
		{[]int{api.U8, api.Text}, `[^b]` + text},
		{[]int{api.Text, api.I16}, text + `[^b]{2}`},
		{[]int{api.Text, api.U8, api.Text}, text + `[^b]` + text},
		{[]int{api.U8, api.I16, api.U8}, `[^b]{4}`},
		{[]int{api.U32}, `[^b]{4}`},
		{[]int{api.I32, api.U16}, `[^b]{6}`},
	} {
		form := regexp.MustCompile(`^(?:` + c.form + `)$`)
		found := 0
		for _, s := range some {
			if !form.MatchString(latin(s)) {
				mustRefuse(t, c.schema, s, api.ErrForm)
				continue
			}
			found++
			values, e := Decode(c.schema, s)
			if e != api.OK {
				t.Fatalf("P8: Decode(%v, %x): %d", c.schema, s, e)
			}
			mustEncode(t, c.schema, values, s)
		}
		if found == 0 {
			t.Errorf("none of the texts is a code by %v", c.schema)
		}
	}
}

// latin has a rune for each byte: expressions are about runes.
func latin(s string) string {
	var runes []rune
	for i := range len(s) {
		runes = append(runes, rune(s[i]))
	}
	return string(runes)
}

// compared is the order of tuples, as the document says it.
func compared(a, b tuple) int {
	for i := range a {
		if c := cmp.Or(cmp.Compare(a[i].U, b[i].U), cmp.Compare(a[i].I, b[i].I), strings.Compare(a[i].S, b[i].S)); c != 0 {
			return c
		}
	}
	return 0
}

// product has all tuples of a schema's values in someCoded, in order.
func product(schema []int) []tuple {
	all := []tuple{nil}
	for _, kind := range schema {
		var longer []tuple
		for _, values := range all {
			for _, c := range someCoded()[kind] {
				longer = append(longer, append(slices.Clone(values), c.v))
			}
		}
		all = longer
	}
	return all
}

// TestOrderOfCodes: if a code is another one's beginning, it is the next one's too, so that neighbours are enough to look at.
func TestOrderOfCodes(t *testing.T) {
	var schemas [][]int
	for one := api.U8; one <= api.Text; one++ {
		schemas = append(schemas, []int{one}, []int{api.Text, one, api.Text}, []int{one, api.Text, one})
		for two := api.U8; two <= api.Text; two++ {
			schemas = append(schemas, []int{one, two})
		}
	}
	schemas = append(schemas, []int{api.I8, api.U16, api.I32, api.U64, api.I64, api.U8})
	for _, schema := range schemas {
		var last tuple
		before := ""
		for i, values := range product(schema) {
			code, e := Encode(schema, values)
			if e != api.OK {
				t.Fatalf("P8: Encode(%v, %+v): %d", schema, values, e)
			}
			if i > 0 && (compared(last, values) != -1 || code <= before || strings.HasPrefix(code, before)) {
				t.Fatalf("P9: by %v the code of %+v is %x, that of %+v is %x", schema, last, before, values, code)
			}
			last, before = values, code
		}
	}
}

// TestOrderOfCodesOfTexts has each two of many short texts, one of them ahead of a number and behind one.
func TestOrderOfCodesOfTexts(t *testing.T) {
	schema := []int{api.I8, api.Text, api.I8}
	some := texts("\x00\x01\xfe\xff", 3)
	code := func(s string, n int64) string {
		c, _ := Encode(schema, tuple{ofI(-1), ofS(s), ofI(n)})
		return c
	}
	for _, a := range some {
		for _, b := range some {
			for _, n := range []int64{-128, 0, 127} {
				one, two := code(a, 0), code(b, n)
				want := cmp.Or(strings.Compare(a, b), cmp.Compare(0, n))
				if strings.Compare(one, two) != want || (want != 0 && strings.HasPrefix(one, two)) {
					t.Fatalf("P9: the codes of %q, 0 and %q, %d are %x and %x", a, b, n, one, two)
				}
			}
		}
	}
}

// TestTuplesInAnIndex: the codes as keys are gone through in the order of the tuples, by their first values too.
func TestTuplesInAnIndex(t *testing.T) {
	schema := []int{api.Text, api.I16, api.U8}
	all := product(schema)
	x := New[int]()
	for i := range all {
		at := i * 7 % len(all) // not in their order, each once: 7 does not divide their number
		code, _ := Encode(schema, all[at])
		mustPut(t, x, code, at, 0, false)
	}
	mustLen(t, x, len(all))
	next := 0
	for key, v := range x.Scan("", "") {
		if v != next {
			t.Fatalf("P9: tuple %d comes where %d must", v, next)
		}
		mustDecode(t, schema, key, all[v])
		next++
	}
	for first := 1; first <= len(schema); first++ {
		for i, values := range all {
			p, _ := Encode(schema[:first], values[:first])
			found := 0
			for _, v := range x.Prefix(p) {
				if compared(all[v][:first], values[:first]) != 0 {
					t.Fatalf("P9: %+v begins not like %+v", all[v], values[:first])
				}
				found++
			}
			if want := len(all) / len(product(schema[:first])); found != want {
				t.Fatalf("P9: tuples that begin like tuple %d in %d values: %d, want %d", i, first, found, want)
			}
		}
	}
}

// TestTuplesAreLeft: what is handed in is as it was, spare room too.
func TestTuplesAreLeft(t *testing.T) {
	kinds := []int{api.U16, api.I8, api.Text, 11, 12, 13}
	values := tuple{ofU(258), ofI(-1), ofS("a\x00"), {U: 1, I: 2, S: "spare"}, ofS("room")}
	kindsWere, valuesWere := slices.Clone(kinds), slices.Clone(values)
	const code = "\x01\x02\x7f\x61\x00\xff\x00\x00"
	mustEncode(t, kinds[:3], values[:3], code)
	mustDecode(t, kinds[:3], code, values[:3])
	mustNotEncode(t, kinds[:3], values[:4], api.ErrTuple)
	mustNotEncode(t, kinds[:4], values[:4], api.ErrSchema)
	mustRefuse(t, kinds[:3], code[:6], api.ErrForm)
	mustRefuse(t, kinds, code, api.ErrSchema)
	if !slices.Equal(kinds, kindsWere) || !slices.Equal(values, valuesWere) {
		t.Errorf("P2: what was handed in is now %v, %+v", kinds, values)
	}
}

// TestTuplesAreNew: what is done with one answer, and behind it, is not seen in another one.
func TestTuplesAreNew(t *testing.T) {
	schema := []int{api.U8, api.Text}
	one, _ := Decode(schema, "\x01a\x00\x00")
	two, _ := Decode(schema, "\x01a\x00\x00")
	one[0], one[1] = ofU(7), ofS("other")
	room := one[:cap(one)]
	for i := range room {
		room[i] = ofS("room")
	}
	_ = append(one, ofS("behind"))
	if want := (tuple{ofU(1), ofS("a")}); !slices.Equal(two, want) {
		t.Errorf("P2: the other answer is now %+v", two)
	}
	mustDecode(t, schema, "\x01a\x00\x00", tuple{ofU(1), ofS("a")})
	schema[0] = api.Text
	mustDecode(t, schema, "\x00\x00a\x00\x00", tuple{ofS(""), ofS("a")})
}

func within(s, text string) bool {
	begin := uintptr(unsafe.Pointer(unsafe.StringData(text)))
	at := uintptr(unsafe.Pointer(unsafe.StringData(s)))
	return s != "" && at >= begin && at < begin+uintptr(len(text))
}

// TestTextsAreNotKept: the bytes of an answer are its own, so that the text that was handed in may go.
func TestTextsAreNotKept(t *testing.T) {
	for _, s := range []string{"a", "\x00", "abc\x00def", "\xff", strings.Repeat("long", 100)} {
		schema := []int{api.Text, api.U8, api.Text}
		code, _ := Encode(schema, tuple{ofS(s), ofU(1), ofS(s)})
		values, e := Decode(schema, code)
		if e != api.OK || values[0].S != s || values[2].S != s {
			t.Fatalf("P9: read back is %+v, %d", values, e)
		}
		if within(values[0].S, code) || within(values[2].S, code) || within(values[0].S, values[2].S) {
			t.Errorf("P2: the text %q is a piece of its code", s)
		}
		if within(code, s) {
			t.Errorf("P2: the code of %q is a piece of it", s)
		}
	}
}

// TestTuplesFromManySides: answers hang on the arguments alone, also if others ask at the same time for something else.
func TestTuplesFromManySides(t *testing.T) {
	all := someCoded()
	var sides sync.WaitGroup
	for side := range 8 {
		sides.Go(func() {
			for i := range 2000 {
				kind, other := (side+i)%api.Text+1, i%api.Text+1
				a, b := all[kind][i%len(all[kind])], all[other][(i+side)%len(all[other])]
				schema, values := []int{kind, other}, tuple{a.v, b.v}
				if code, e := Encode(schema, values); code != a.code+b.code || e != api.OK {
					t.Errorf("P2: Encode(%v, %+v) = %x, %d", schema, values, code, e)
				}
				if read, e := Decode(schema, a.code+b.code); !slices.Equal(read, values) || e != api.OK {
					t.Errorf("P2: Decode(%v, %x) = %+v, %d", schema, a.code+b.code, read, e)
				}
			}
		})
	}
	sides.Wait()
}

// schemaOf makes kinds of a text's bytes; 0 and 10 are among them.
func schemaOf(text string) []int {
	var schema []int
	for i := range len(text) {
		schema = append(schema, int(text[i])%(api.Text+2))
	}
	return schema
}

func isSchema(schema []int) bool {
	return len(schema) >= 1 && len(schema) <= api.MaxFields && slices.Min(schema) >= api.U8 && slices.Max(schema) <= api.Text
}

// FuzzDecode: what Decode takes, Encode makes again, and two that it takes are in order.
func FuzzDecode(f *testing.F) {
	f.Add("\x09", "\x00\x00", "\x00\xff\x00\x00")
	f.Add("\x02\x05\x09", "\x01\x02\x7f\x61\x00\xff\x00\x00", "\x01\x02\x7f\x61\x00\x00")
	f.Add("\x09\x08\x09", "a\x00\x00\x80\x00\x00\x00\x00\x00\x00\x00\x00\x00", "a\x00\x01")
	f.Add("\x01\x01\x01\x01\x01\x01\x01", "1234567", "")
	f.Fuzz(func(t *testing.T, kinds, text, other string) {
		schema := schemaOf(kinds)
		if !isSchema(schema) {
			mustRefuse(t, schema, text, api.ErrSchema)
			return
		}
		one, e := Decode(schema, text)
		if e != api.OK {
			mustRefuse(t, schema, text, api.ErrForm)
			return
		}
		mustEncode(t, schema, one, text)
		two, e := Decode(schema, other)
		if e != api.OK {
			return
		}
		if compared(one, two) != strings.Compare(text, other) || (text != other && strings.HasPrefix(text, other)) {
			t.Errorf("P9: by %v %+v has the code %x, %+v has %x", schema, one, text, two, other)
		}
	})
}

// FuzzEncode: what Encode makes, Decode reads back; what it refuses does not fit.
func FuzzEncode(f *testing.F) {
	f.Add("\x09", uint64(0), int64(0), "a\x00", uint8(1))
	f.Add("\x01\x05\x09", uint64(256), int64(-129), "\x00\xff", uint8(3))
	f.Add("\x04\x08\x09", uint64(math.MaxUint64), int64(math.MinInt64), "\xff", uint8(3))
	f.Add("\x01\x02\x03\x05\x06\x07", uint64(7), int64(-7), "", uint8(6))
	f.Fuzz(func(t *testing.T, kinds string, u uint64, i int64, s string, count uint8) {
		schema := schemaOf(kinds)
		values, want := make(tuple, count), api.OK
		for at := range values {
			kind := api.Text
			if at < len(schema) {
				kind = schema[at]
			}
			switch {
			case kind <= api.U64:
				values[at] = ofU(u)
				if bits := 4 << kind; bits < 64 && u >= 1<<bits {
					want = api.ErrTuple
				}
			case kind <= api.I64:
				values[at] = ofI(i)
				if bits := 4 << (kind - 4); bits < 64 && (i >= 1<<(bits-1) || i < -1<<(bits-1)) {
					want = api.ErrTuple
				}
			default:
				values[at] = ofS(s)
			}
		}
		if len(values) != len(schema) {
			want = api.ErrTuple
		}
		if !isSchema(schema) {
			want = api.ErrSchema
		}
		if want != api.OK {
			mustNotEncode(t, schema, values, want)
			return
		}
		code, e := Encode(schema, values)
		if e != api.OK {
			t.Fatalf("P8: Encode(%v, %+v): %d", schema, values, e)
		}
		mustDecode(t, schema, code, values)
	})
}
