package trellis

import (
	"maps"
	"slices"
	"strconv"
	"strings"
	"sync"
	"testing"

	"trellis/api"
)

func mustPut[V comparable](t *testing.T, x *Index[V], key string, v V, was V, had bool) {
	t.Helper()
	if w, h, e := x.Put(key, v); w != was || h != had || e != api.OK {
		t.Fatalf("P3: Put(%.20q) = %v, %v, %d, want %v, %v, 0", key, w, h, e, was, had)
	}
}

func mustGet[V comparable](t *testing.T, x *Index[V], key string, v V, had bool) {
	t.Helper()
	if w, h := x.Get(key); w != v || h != had {
		t.Fatalf("P3: Get(%.20q) = %v, %v, want %v, %v", key, w, h, v, had)
	}
}

func mustDelete[V comparable](t *testing.T, x *Index[V], key string, v V, had bool) {
	t.Helper()
	if w, h := x.Delete(key); w != v || h != had {
		t.Fatalf("P3: Delete(%.20q) = %v, %v, want %v, %v", key, w, h, v, had)
	}
}

func mustLen[V any](t *testing.T, x *Index[V], want int) {
	t.Helper()
	if n := x.Len(); n != want {
		t.Fatalf("P3: Len() = %d, want %d", n, want)
	}
}

func mustShape[V any](t *testing.T, x *Index[V], want api.Shape) {
	t.Helper()
	if s := x.Shape(); s != want {
		t.Fatalf("P4: Shape() = %+v, want %+v", s, want)
	}
}

func full(t *testing.T) *Index[int] {
	t.Helper()
	x := New[int]()
	for i := range api.MaxKeys {
		mustPut(t, x, strconv.Itoa(i), i+1, 0, false)
	}
	return x
}

func TestNewIsEmpty(t *testing.T) {
	x := New[int]()
	mustLen(t, x, 0)
	mustGet(t, x, "", 0, false)
	mustGet(t, x, "a", 0, false)
	mustDelete(t, x, "", 0, false)
	mustDelete(t, x, "a", 0, false)
	mustShape(t, x, api.Shape{})
}

func TestPutGetDelete(t *testing.T) {
	x := New[string]()
	mustPut(t, x, "abc", "one", "", false)
	mustPut(t, x, "abc", "two", "one", true)
	mustPut(t, x, "abd", "", "", false)
	mustPut(t, x, "ab", "three", "", false)
	mustLen(t, x, 3)
	mustGet(t, x, "abc", "two", true)
	mustGet(t, x, "abd", "", true)
	mustGet(t, x, "ab", "three", true)
	for _, key := range []string{"", "a", "abe", "abcd", "b", "\x00", "ab\x00"} {
		mustGet(t, x, key, "", false)
		mustDelete(t, x, key, "", false)
	}
	mustDelete(t, x, "abd", "", true)
	mustDelete(t, x, "abd", "", false)
	mustDelete(t, x, "ab", "three", true)
	mustLen(t, x, 1)
	mustGet(t, x, "ab", "", false)
	mustGet(t, x, "abc", "two", true)
	mustDelete(t, x, "abc", "two", true)
	mustLen(t, x, 0)
	mustPut(t, x, "abc", "four", "", false)
	mustGet(t, x, "abc", "four", true)
}

func TestEmptyKey(t *testing.T) {
	x := New[int]()
	mustPut(t, x, "", 1, 0, false)
	mustGet(t, x, "", 1, true)
	mustGet(t, x, "\x00", 0, false)
	mustPut(t, x, "\x00", 2, 0, false)
	mustPut(t, x, "", 3, 1, true)
	mustLen(t, x, 2)
	mustShape(t, x, api.Shape{Leaves: 1, Nodes4: 1, Height: 2})
	mustDelete(t, x, "", 3, true)
	mustGet(t, x, "", 0, false)
	mustGet(t, x, "\x00", 2, true)
	mustShape(t, x, api.Shape{Leaves: 1, Height: 1})
}

func TestLongestKey(t *testing.T) {
	x := New[int]()
	longest := strings.Repeat("k", api.MaxKey)
	mustPut(t, x, longest, 1, 0, false)
	mustPut(t, x, longest[1:], 2, 0, false)
	mustPut(t, x, longest[:api.MaxKey-1]+"\xff", 3, 0, false)
	mustGet(t, x, longest, 1, true)
	mustGet(t, x, longest[1:], 2, true)
	shape := x.Shape()
	for _, tooLong := range []string{longest + "k", longest + "\x00", strings.Repeat("x", api.MaxKey+1), strings.Repeat("k", 1<<20)} {
		if v, had, e := x.Put(tooLong, 9); v != 0 || had || e != api.ErrKey {
			t.Fatalf("P3: Put of %d bytes = %d, %v, %d, want 0, false, %d", len(tooLong), v, had, e, api.ErrKey)
		}
		mustGet(t, x, tooLong, 0, false)
		mustDelete(t, x, tooLong, 0, false)
	}
	mustLen(t, x, 3)
	mustShape(t, x, shape)
	mustDelete(t, x, longest, 1, true)
	mustLen(t, x, 2)
}

func TestFullIndex(t *testing.T) {
	x := full(t)
	mustLen(t, x, api.MaxKeys)
	shape := x.Shape()
	for _, key := range []string{"", "more", "0x", "-1"} {
		if v, had, e := x.Put(key, 9); v != 0 || had || e != api.ErrFull {
			t.Fatalf("P3: Put(%q) of one more = %d, %v, %d, want 0, false, %d", key, v, had, e, api.ErrFull)
		}
		mustGet(t, x, key, 0, false)
	}
	if v, had, e := x.Put(strings.Repeat("k", api.MaxKey+1), 9); v != 0 || had || e != api.ErrKey {
		t.Fatalf("P1: Put of a long key into a full index = %d, %v, %d, want 0, false, %d", v, had, e, api.ErrKey)
	}
	mustLen(t, x, api.MaxKeys)
	mustShape(t, x, shape)
	mustPut(t, x, "7", -7, 8, true)
	mustGet(t, x, "7", -7, true)
	mustDelete(t, x, "8", 9, true)
	mustPut(t, x, "more", 1, 0, false)
	if _, _, e := x.Put("8", 9); e != api.ErrFull {
		t.Fatalf("P3: Put into what is full again: %d, want %d", e, api.ErrFull)
	}
	for i := range api.MaxKeys {
		x.Delete(strconv.Itoa(i))
	}
	mustLen(t, x, 1)
	mustShape(t, x, api.Shape{Leaves: 1, Height: 1})
}

func TestValuesOfAnyType(t *testing.T) {
	type row struct {
		name string
		list []int
	}
	x := New[row]()
	x.Put("a", row{"a", []int{1}})
	x.Put("b", row{})
	list := []int{2, 3}
	if was, had, e := x.Put("a", row{"A", list}); was.name != "a" || len(was.list) != 1 || !had || e != api.OK {
		t.Errorf("P3: Put = %v, %v, %d", was, had, e)
	}
	if v, had := x.Get("a"); v.name != "A" || !had || &v.list[0] != &list[0] {
		t.Errorf("P2: Get = %v, %v: not the value that was handed in", v, had)
	}
	if v, had := x.Get("b"); v.name != "" || v.list != nil || !had {
		t.Errorf("P3: Get of a zero value = %v, %v", v, had)
	}
	funcs := New[func() int]()
	funcs.Put("f", func() int { return 5 })
	if f, had := funcs.Get("f"); !had || f() != 5 {
		t.Errorf("P3: Get of a function: %v", had)
	}
	nothing := New[any]()
	mustPut(t, nothing, "n", nil, nil, false)
	mustGet(t, nothing, "n", nil, true)
	mustDelete(t, nothing, "n", nil, true)
}

func TestIndexesAreApart(t *testing.T) {
	x, y := New[int](), New[int]()
	mustPut(t, x, "a", 1, 0, false)
	mustGet(t, y, "a", 0, false)
	mustPut(t, y, "a", 2, 0, false)
	mustDelete(t, x, "a", 1, true)
	mustGet(t, y, "a", 2, true)
	mustLen(t, x, 0)
	mustLen(t, y, 1)
}

// TestShapes puts the keys in three orders, each with other keys among them that go again.
func TestShapes(t *testing.T) {
	var chain []string
	for n := range api.MaxKey + 1 {
		chain = append(chain, strings.Repeat("a", n))
	}
	var deep []string
	for n := range api.MaxKey {
		deep = append(deep, strings.Repeat("a", n)+"b")
	}
	cases := []struct {
		keys []string
		want api.Shape
	}{
		{nil, api.Shape{}},
		{[]string{""}, api.Shape{Leaves: 1, Height: 1}},
		{[]string{strings.Repeat("k", api.MaxKey)}, api.Shape{Leaves: 1, Height: 1}},
		{[]string{"", "a", "abc", "abd"}, api.Shape{Leaves: 2, Nodes4: 3, Height: 4}},
		{[]string{"a", "abc", "abd"}, api.Shape{Leaves: 2, Nodes4: 2, Height: 3}},
		{[]string{"", "a"}, api.Shape{Leaves: 1, Nodes4: 1, Height: 2}},
		{[]string{"\x00", "\xff"}, api.Shape{Leaves: 2, Nodes4: 1, Height: 2}},
		{[]string{"a", "ba", "bba", "bbb"}, api.Shape{Leaves: 4, Nodes4: 3, Height: 4}},
		{chain, api.Shape{Leaves: 1, Nodes4: api.MaxKey, Height: api.MaxKey + 1}},
		{deep, api.Shape{Leaves: api.MaxKey, Nodes4: api.MaxKey - 1, Height: api.MaxKey}},
	}
	for _, c := range cases {
		shapeInOrders(t, c.keys, c.want)
	}
}

func TestShapesByBranches(t *testing.T) {
	cases := []struct {
		branches int
		node     api.Shape
	}{
		{2, api.Shape{Nodes4: 1}}, {3, api.Shape{Nodes4: 1}}, {4, api.Shape{Nodes4: 1}},
		{5, api.Shape{Nodes16: 1}}, {16, api.Shape{Nodes16: 1}},
		{17, api.Shape{Nodes48: 1}}, {48, api.Shape{Nodes48: 1}},
		{49, api.Shape{Nodes256: 1}}, {255, api.Shape{Nodes256: 1}}, {256, api.Shape{Nodes256: 1}},
	}
	for _, c := range cases {
		want := c.node
		want.Leaves, want.Height = c.branches, 2
		for _, prefix := range []string{"", "some/", strings.Repeat("p", api.MaxKey-1)} {
			var keys []string
			for i := range c.branches {
				keys = append(keys, prefix+string([]byte{byte(255 - i*255/(c.branches-1))}))
			}
			shapeInOrders(t, keys, want)
			// A value at the node itself is no branch.
			shapeInOrders(t, append(keys, prefix), want)
		}
	}
}

func shapeInOrders(t *testing.T, keys []string, want api.Shape) {
	t.Helper()
	forth := slices.Clone(keys)
	back := slices.Clone(keys)
	slices.Reverse(back)
	mixed := slices.Clone(keys)
	slices.SortFunc(mixed, func(a, b string) int { return scattered(a) - scattered(b) })
	for _, order := range [][]string{forth, back, mixed} {
		x := New[int]()
		for i, key := range order {
			x.Put(key, i)
		}
		mustShape(t, x, want)
		for i := range 256 {
			for _, key := range []string{"", "a", "some", "some/", "pp"} {
				x.Put(key+string([]byte{byte(i)})+"!!", i)
			}
		}
		for i := range 256 {
			for _, key := range []string{"pp", "some/", "some", "a", ""} {
				x.Delete(key + string([]byte{byte(i)}) + "!!")
			}
		}
		mustShape(t, x, want)
		mustLen(t, x, len(keys))
		for i, key := range order {
			mustDelete(t, x, key, i, true)
		}
		mustShape(t, x, api.Shape{})
	}
}

func scattered(key string) int {
	n := 17
	for _, b := range []byte(key) {
		n = (n*31 + int(b)) * 40503 % 65521
	}
	return n
}

// TestBranchesComeAndGo walks over the kinds' edges up and down again.
func TestBranchesComeAndGo(t *testing.T) {
	x := New[int]()
	for i := range 256 {
		mustPut(t, x, string([]byte{byte(i * 37)}), i, 0, false)
		mustShape(t, x, flat(i+1))
	}
	for i := range 256 {
		mustDelete(t, x, string([]byte{byte(i * 101)}), i*101*173%256, true)
		mustShape(t, x, flat(255-i))
	}
}

// flat is the shape of so many keys of one byte.
func flat(keys int) api.Shape {
	s := api.Shape{Leaves: keys, Height: 2}
	switch {
	case keys < 2:
		s.Height = keys
	case keys <= 4:
		s.Nodes4 = 1
	case keys <= 16:
		s.Nodes16 = 1
	case keys <= 48:
		s.Nodes48 = 1
	default:
		s.Nodes256 = 1
	}
	return s
}

func FuzzAgainstMap(f *testing.F) {
	f.Add("a b ab abc -a abd -abc")
	f.Add("  - \x00 \xff -\xff \xff\x00 -")
	f.Add(strings.Repeat("k", api.MaxKey) + " " + strings.Repeat("k", api.MaxKey+1))
	f.Fuzz(func(t *testing.T, script string) {
		x := New[int]()
		model := map[string]int{}
		for i, word := range strings.Split(script, " ") {
			if key, ok := strings.CutPrefix(word, "-"); ok {
				was, had := model[key]
				mustDelete(t, x, key, was, had)
				delete(model, key)
				continue
			}
			was, had := model[word]
			if len(word) > api.MaxKey {
				if _, _, e := x.Put(word, i); e != api.ErrKey {
					t.Fatalf("P3: Put(%q): %d", word, e)
				}
				continue
			}
			if len(model) < api.MaxKeys {
				mustPut(t, x, word, i, was, had)
				model[word] = i
			}
		}
		mustLen(t, x, len(model))
		again := New[int]()
		for _, key := range slices.Sorted(maps.Keys(model)) {
			mustGet(t, x, key, model[key], true)
			again.Put(key, 0)
		}
		mustShape(t, x, again.Shape())
	})
}

// TestOneKeyFromManySides: each value that was put is told once as the one before, or is there at the end.
func TestOneKeyFromManySides(t *testing.T) {
	const sides, each = 8, 500
	x := New[int]()
	var told [sides][]int
	var all sync.WaitGroup
	for side := range sides {
		all.Go(func() {
			for i := range each {
				if was, had, _ := x.Put("key", side*each+i); had {
					told[side] = append(told[side], was)
				}
				if i%3 == 0 {
					if was, had := x.Delete("key"); had {
						told[side] = append(told[side], was)
					}
				}
			}
		})
	}
	all.Wait()
	seen := slices.Concat(told[:]...)
	if v, had := x.Delete("key"); had {
		seen = append(seen, v)
	}
	slices.Sort(seen)
	if len(seen) != sides*each || len(slices.Compact(seen)) != sides*each {
		t.Errorf("P3: of %d values %d were told", sides*each, len(seen))
	}
}

// TestFullFromManySides: who comes last does not get in, however many come at once.
func TestFullFromManySides(t *testing.T) {
	const sides, each = 8, 500
	x := New[int]()
	var taken, refused [sides]int
	var all sync.WaitGroup
	for side := range sides {
		all.Go(func() {
			for i := range each {
				switch _, _, e := x.Put(strconv.Itoa(i)+"/"+strconv.Itoa(side), i); e {
				case api.OK:
					taken[side]++
				case api.ErrFull:
					refused[side]++
				}
				if n, s := x.Len(), x.Shape(); n > api.MaxKeys || s.Leaves > api.MaxKeys {
					t.Errorf("P3: Len() = %d, Shape() = %+v", n, s)
				}
			}
		})
	}
	all.Wait()
	sum := func(l [sides]int) int {
		n := 0
		for _, k := range l {
			n += k
		}
		return n
	}
	if sum(taken) != api.MaxKeys || sum(refused) != sides*each-api.MaxKeys || x.Len() != api.MaxKeys {
		t.Errorf("P3: %d taken, %d refused, Len() = %d", sum(taken), sum(refused), x.Len())
	}
}
