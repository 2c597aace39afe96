package trellis

import (
	"slices"
	"strconv"
	"strings"
	"sync"
	"sync/atomic"
	"testing"
	"unsafe"

	"trellis/api"
)

type part = []Pair[int]

func mustFill(t *testing.T, x *Index[int], parts []part, want api.Errno) {
	t.Helper()
	if e := x.Fill(parts); e != want {
		t.Fatalf("P7: Fill of %d parts: %d, want %d", len(parts), e, want)
	}
}

// put is what Fill is to be like: all pairs Put, part by part, each in its order.
func (s state) put(parts []part) state {
	s = s.with(nil)
	for _, p := range slices.Concat(parts...) {
		s[p.Key] = p.Value
	}
	return s
}

// countedPairs are of numbers from first on.
func countedPairs(prefix string, first, pairs int) part {
	var list part
	for i := range pairs {
		list = append(list, Pair[int]{prefix + strconv.Itoa(first+i), first + i})
	}
	return list
}

// dealt puts a list's pairs into so many parts, each in its turn.
func dealt(list part, parts int) []part {
	all := make([]part, parts)
	for i, p := range list {
		all[i%parts] = append(all[i%parts], p)
	}
	return all
}

func someFills() [][]part {
	longest := strings.Repeat("k", api.MaxKey)
	same := make([]part, api.MaxParts)
	for i := range same {
		same[i] = part{{"same", 2 * i}, {"own" + strconv.Itoa(i), i}, {"same", 2*i + 1}}
	}
	return [][]part{
		nil,
		{},
		{nil},
		make([]part, api.MaxParts),
		{{}, {{"a", 10}}, nil, {}},
		{{{"", 10}}},
		{{{"", 10}, {"", 11}}, {{"", 12}}, {}},
		{{{"a", 10}}, {{"a", 11}}},
		{{{"a", 10}, {"a", 11}, {"a", 10}}},
		{{{"b", 12}, {"c", 12}, {"b", 13}}, nil, {{"c", 14}, {"", 14}}, {{"a", 15}}},
		{{{"abc", 10}}, {{"abd", 11}}, {{"ab", 12}}, {{"abcd", 13}}, {{"a", 14}}},
		{{{"xyza", 10}, {"xyzb", 11}}, {{"xy", 12}, {"xya", 13}}, {{"x", 14}, {"", 15}}},
		{{{longest, 10}, {longest[1:], 11}}, {{longest[1:] + "\x00", 12}, {longest[1:] + "\xff", 13}, {longest, 14}}},
		{{{"\x00", 10}, {"\xff", 11}}, {{"\x00\x00", 12}, {"\xff\xff", 13}}, {{"some/\x80", 14}}},
		same,
		dealt(countedPairs("some/", 0, 300), api.MaxParts),
		dealt(slices.Concat(countedPairs("", 0, 100), countedPairs("", 50, 100), part{{"99", -1}}), 7),
	}
}

func TestFills(t *testing.T) {
	for _, s := range someStates() {
		for _, parts := range someFills() {
			x := s.index()
			mustFill(t, x, parts, api.OK)
			mustBe(t, "P7: filled", x, s.put(parts))
			mustFill(t, x, parts, api.OK)
			mustBe(t, "P7: filled again", x, s.put(parts))
		}
	}
}

// TestLastPartHolds: whichever part is done first, the last one's value is there.
func TestLastPartHolds(t *testing.T) {
	for round := range 50 {
		var parts []part
		for i := range api.MaxParts {
			list := countedPairs("", 0, 40)
			// Parts that take long stand ahead of short ones, and behind them.
			for range (i + round) % 3 * 20 {
				list = append(list, list[:40]...)
			}
			for k := range list {
				list[k].Value = 1000*i + k
			}
			parts = append(parts, list)
		}
		x := New[int]()
		mustFill(t, x, parts, api.OK)
		mustBe(t, "P7: filled", x, state{}.put(parts))
	}
}

func TestFillUpToTheBound(t *testing.T) {
	const all = api.MaxKeys
	for _, c := range []struct {
		s     state
		parts []part
		want  api.Errno
	}{
		{state{}, dealt(countedPairs("", 0, all), 1), api.OK},
		{state{}, dealt(countedPairs("", 0, all), api.MaxParts), api.OK},
		{state{}, dealt(countedPairs("", 0, all+1), 1), api.ErrFull},
		{state{}, dealt(countedPairs("", 0, all+1), api.MaxParts), api.ErrFull},
		{state{}, dealt(countedPairs("", 0, 3*all), 2), api.ErrFull},
		{state{}, []part{countedPairs("", 0, all), countedPairs("", 0, all)}, api.OK},
		{state{}, []part{countedPairs("", 0, all), countedPairs("", 1, all)}, api.ErrFull},
		{state{}, []part{slices.Concat(countedPairs("", 0, all), part{{"7", -7}})}, api.OK},
		{state{}, []part{slices.Concat(countedPairs("", 0, all), countedPairs("", 0, all), part{{"", 1}})}, api.ErrFull},
		{counted("", 0, all), []part{{{"7", -7}}, {{"0", -1}, {"7", -8}}}, api.OK},
		{counted("", 0, all), []part{countedPairs("", 0, all)}, api.OK},
		{counted("", 0, all), nil, api.OK},
		{counted("", 0, all), []part{nil, {}}, api.OK},
		{counted("", 0, all), []part{{{"7", -7}}, {{"more", 1}}}, api.ErrFull},
		{counted("", 0, all), []part{{{"", 1}}}, api.ErrFull},
		{counted("", 0, all-1), []part{{{"7", -7}}, {{"more", 1}}, {{"more", 2}}}, api.OK},
		{counted("", 0, all-1), []part{{{"7", -7}}, {{"more", 1}}, {{"most", 2}}}, api.ErrFull},
		{counted("", 0, 2000), []part{countedPairs("", 1000, 2000)}, api.OK},
		{counted("", 0, 2000), []part{countedPairs("", 1000, 1000), countedPairs("", 2000, 1001)}, api.ErrFull},
	} {
		x := c.s.index()
		mustFill(t, x, c.parts, c.want)
		want := c.s
		if c.want == api.OK {
			want = c.s.put(c.parts)
		}
		mustBe(t, "P7: at the bound", x, want)
	}
}

// TestFillErrors has, for each error, what comes with it alone and what comes with those that are named behind it.
func TestFillErrors(t *testing.T) {
	long := strings.Repeat("k", api.MaxKey+1)
	tooLong := part{{"ok", 1}, {long, 1}, {"ok", 2}}
	tooMany := countedPairs("", 0, api.MaxKeys+1)
	none := func(n int) []part { return make([]part, n) }
	for _, s := range []state{{}, numbered("", "a", "ab", "b"), counted("", 0, api.MaxKeys)} {
		for _, c := range []struct {
			what  string
			parts []part
			want  api.Errno
		}{
			{"one part more", none(api.MaxParts + 1), api.ErrParts},
			{"many parts", none(1000), api.ErrParts},
			{"one part more, of keys", dealt(part{{"a", -1}}, api.MaxParts+1), api.ErrParts},
			{"one part more, a long key ahead", append([]part{tooLong}, none(api.MaxParts)...), api.ErrParts},
			{"one part more, a long key behind", append(none(api.MaxParts), tooLong), api.ErrParts},
			{"one part more, too many keys", append(none(api.MaxParts), tooMany), api.ErrParts},
			{"one part more, and all else", append([]part{tooMany, tooLong}, none(api.MaxParts)...), api.ErrParts},
			{"a long key", []part{tooLong}, api.ErrKey},
			{"the only key long", []part{{{long, 1}}}, api.ErrKey},
			{"a longer key", []part{{{strings.Repeat("k", 1<<20), 1}}}, api.ErrKey},
			{"a long key, twice", []part{{{long, 1}}, {{long, 2}}}, api.ErrKey},
			{"a long key in the first part", append([]part{tooLong}, none(api.MaxParts-1)...), api.ErrKey},
			{"a long key in the last part", append(none(api.MaxParts-1), tooLong), api.ErrKey},
			{"a long key, too many behind it", []part{tooLong, tooMany}, api.ErrKey},
			{"a long key, too many ahead of it", []part{tooMany, tooLong}, api.ErrKey},
			{"a long key, too many in its part", []part{slices.Concat(tooMany, tooLong)}, api.ErrKey},
			{"too many", []part{tooMany}, api.ErrFull},
			{"too many, in all parts", dealt(tooMany, api.MaxParts), api.ErrFull},
			{"too many, behind what is not", []part{{{"0", -1}}, tooMany, {{"0", -2}}}, api.ErrFull},
		} {
			x := s.index()
			if e := x.Fill(c.parts); e != c.want {
				t.Errorf("P7: %s, into %d keys: %d, want %d", c.what, len(s), e, c.want)
			}
			mustBe(t, "P1: behind an error: "+c.what, x, s)
		}
	}
}

// TestFillLeavesItsParts: lists and their spare room stay, and what is done with them later is not seen.
func TestFillLeavesItsParts(t *testing.T) {
	room := countedPairs("room", 0, 10)
	parts := make([]part, 2, 5)
	parts[0], parts[1] = room[:2:6], room[6:8:10]
	spare := parts[:5]
	spare[2], spare[3] = part{{"spare", 1}}, room
	x := numbered("room0").index()
	mustFill(t, x, parts, api.OK)
	if !slices.Equal(room, countedPairs("room", 0, 10)) {
		t.Errorf("P2: Fill changes its pairs: %s", told(room))
	}
	if len(spare[2]) != 1 || spare[2][0] != (Pair[int]{"spare", 1}) || &spare[3][0] != &room[0] || spare[4] != nil || &parts[0][0] != &room[0] || &parts[1][0] != &room[6] {
		t.Errorf("P2: Fill changes its parts: %v", spare)
	}
	want := state{"room0": 0, "room1": 1, "room6": 6, "room7": 7}
	mustBe(t, "P7: filled", x, want)
	for i := range room {
		room[i] = Pair[int]{"other", -1}
	}
	clear(spare)
	mustBe(t, "P2: filled, and the parts changed", x, want)
	x.Put("room6", -6)
	if room[6] != (Pair[int]{"other", -1}) {
		t.Errorf("P2: Put changes what was handed to Fill: %s", told(room))
	}
}

// TestKeysAreNotKept: a key's bytes are the index's own; that of a key may be a piece of a text that is to go.
func TestKeysAreNotKept(t *testing.T) {
	text := strings.Repeat("0123456789", 10)
	x, y := New[int](), New[int]()
	for i := range 50 {
		x.Put(text[i:i+i%10], i)
		y.Fill([]part{{{text[i : i+i%10], i}}})
	}
	begin := uintptr(unsafe.Pointer(unsafe.StringData(text)))
	for _, index := range []*Index[int]{x, y} {
		for key := range index.Scan("\x00", "") {
			if at := uintptr(unsafe.Pointer(unsafe.StringData(key))); at >= begin && at < begin+uintptr(len(text)) {
				t.Errorf("P2: the key %q is kept as it was handed in", key)
			}
		}
	}
}

// TestFillTwoOfOneList: two indexes filled with the same parts know nothing of one another.
func TestFillTwoOfOneList(t *testing.T) {
	parts := []part{{{"a", 1}, {"ab", 2}}, {{"abc", 3}, {"b", 4}}}
	x, y := New[int](), New[int]()
	mustFill(t, x, parts, api.OK)
	mustFill(t, y, parts, api.OK)
	x.Put("a", 9)
	x.Delete("abc")
	x.Put("abd", 9)
	mustBe(t, "P2: the other one", y, state{}.put(parts))
	mustBe(t, "P7: the changed one", x, state{"a": 9, "ab": 2, "abd": 9, "b": 4})
}

func TestFillOfAnyType(t *testing.T) {
	x := New[[]int]()
	list := []int{1, 2}
	if e := x.Fill([][]Pair[[]int]{{{"a", list}, {"b", nil}}, {{"b", list[1:]}, {"c", nil}}}); e != api.OK {
		t.Fatalf("P7: Fill of lists: %d", e)
	}
	if v, had := x.Get("a"); !had || len(v) != 2 || &v[0] != &list[0] {
		t.Errorf("P2: Get = %v, %v: not the value that was handed in", v, had)
	}
	if v, had := x.Get("b"); !had || len(v) != 1 || &v[0] != &list[1] {
		t.Errorf("P7: Get of the later value = %v, %v", v, had)
	}
	if v, had := x.Get("c"); !had || v != nil {
		t.Errorf("P7: Get of nil = %v, %v", v, had)
	}
}

// TestFillIsOneChange: each fill changes keys of all parts, so that no going finds them different.
func TestFillIsOneChange(t *testing.T) {
	x := New[int]()
	var done atomic.Bool
	var all sync.WaitGroup
	for side := range 2 {
		all.Go(func() {
			for i := range 500 {
				var parts []part
				for k := range api.MaxParts {
					parts = append(parts, part{{strconv.Itoa(k), -1}, {strconv.Itoa(k), 2*i + side}})
				}
				x.Fill(parts)
			}
			done.Store(true)
		})
	}
	all.Go(func() { mustAgree(t, x, &done) })
	all.Wait()
}

// TestFillsOfManySides: who comes last does not get in, and of who is refused nothing is there.
func TestFillsOfManySides(t *testing.T) {
	const sides, each, pairs = 8, 50, 10
	x := New[int]()
	var taken [sides][]part
	var all sync.WaitGroup
	for side := range sides {
		all.Go(func() {
			for i := range each {
				list := countedPairs(strconv.Itoa(side)+"/", i*pairs, pairs)
				if x.Fill(dealt(list, 3)) == api.OK {
					taken[side] = append(taken[side], list)
				}
			}
		})
	}
	all.Wait()
	mustBe(t, "P7: filled", x, state{}.put(slices.Concat(taken[:]...)))
	mustLen(t, x, api.MaxKeys)
}

func FuzzFill(f *testing.F) {
	f.Add("a b", "b c b||c |a")
	f.Add("", strings.Repeat("|", api.MaxParts))
	f.Add("xy xya", "xyza xyzb|"+strings.Repeat("k", api.MaxKey)+"|"+strings.Repeat("k", api.MaxKey+1))
	f.Fuzz(func(t *testing.T, keys, script string) {
		s, want := wordsOf(keys, 0), api.OK
		var parts []part
		for _, words := range strings.Split(script, "|") {
			var list part
			for _, key := range strings.Split(words, " ") {
				list = append(list, Pair[int]{key, 100000 + len(parts)*1000 + len(list)})
				if len(key) > api.MaxKey {
					want = api.ErrKey
				}
			}
			parts = append(parts, list)
		}
		if len(parts) > api.MaxParts {
			want = api.ErrParts
		}
		filled := s.put(parts)
		if len(s) > api.MaxKeys || len(filled) > api.MaxKeys {
			t.Skip()
		}
		x := s.index()
		mustFill(t, x, parts, want)
		if want != api.OK {
			filled = s
		}
		mustBe(t, "P7: filled", x, filled)
	})
}
