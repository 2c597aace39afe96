package trellis

import (
	"iter"
	"maps"
	"slices"
	"strconv"
	"strings"
	"sync"
	"testing"

	"trellis/api"
)

// state is what an index should have.
type state map[string]int

func (s state) index() *Index[int] {
	x := New[int]()
	for _, key := range slices.Sorted(maps.Keys(s)) {
		x.Put(key, s[key])
	}
	return x
}

func (s state) pairs(wanted func(key string) bool) []Pair[int] {
	var list []Pair[int]
	for _, key := range slices.Sorted(maps.Keys(s)) {
		if wanted(key) {
			list = append(list, Pair[int]{key, s[key]})
		}
	}
	return list
}

func (s state) between(from, to string) []Pair[int] {
	return s.pairs(func(key string) bool { return key >= from && (to == "" || key < to) })
}

func (s state) beginning(p string) []Pair[int] {
	return s.pairs(func(key string) bool { return strings.HasPrefix(key, p) })
}

func numbered(keys ...string) state {
	s := state{}
	for i, key := range keys {
		s[key] = i + 1
	}
	return s
}

func gone(seq iter.Seq2[string, int]) []Pair[int] {
	var list []Pair[int]
	for key, v := range seq {
		list = append(list, Pair[int]{key, v})
	}
	return list
}

func told(list []Pair[int]) string {
	text := strconv.Itoa(len(list)) + " pairs"
	for _, p := range list {
		text += " " + strconv.Quote(p.Key) + "=" + strconv.Itoa(p.Value)
	}
	return text
}

func mustGo(t *testing.T, what string, seq iter.Seq2[string, int], want []Pair[int]) {
	t.Helper()
	if got := gone(seq); !slices.Equal(got, want) {
		t.Fatalf("P5: %s goes through %s, want %s", what, told(got), told(want))
	}
}

func mustScan(t *testing.T, x *Index[int], s state, from, to string) {
	t.Helper()
	mustGo(t, "Scan("+strconv.Quote(from)+", "+strconv.Quote(to)+")", x.Scan(from, to), s.between(from, to))
}

func mustPrefix(t *testing.T, x *Index[int], s state, p string) {
	t.Helper()
	mustGo(t, "Prefix("+strconv.Quote(p)+")", x.Prefix(p), s.beginning(p))
}

// someStates have, among them, no key, the empty one alone and beside others, values at nodes, chains, long prefixes, long keys, nodes of each kind, and bytes 00 and ff.
func someStates() []state {
	longest := strings.Repeat("k", api.MaxKey)
	states := []state{
		{},
		numbered(""),
		numbered("ab"),
		numbered("", "a", "abc", "abd"),
		numbered("a", "ab", "abc", "b", "ba", "bc"),
		numbered("abcx", "abcy", "b", "bcde", "cdef", "cdefgh", "d"),
		numbered("abc", "abd", "ab\x00", "ab\xff", "ac", "b"),
		numbered("", "\x00", "\x00\x00", "\x00\xff", "\xff", "\xff\x00", "\xff\xff", "\xfe\xff"),
		numbered("\x00\x00", "\x00\x01", "\xff\xfe", "\xff\xff"),
		numbered(longest, longest[1:], longest[2:], longest[1:]+"\x00", longest[1:]+"\xff", longest[:1]),
	}
	for _, branches := range []int{5, 17, 49, 256} {
		s := numbered("some", "some/")
		for i := range branches {
			key := "some/" + string([]byte{byte(i * 255 / (branches - 1))})
			s[key] = 10 * i
			if i%9 == 0 {
				s[key+"x"] = 10*i + 1
			}
		}
		states = append(states, s)
	}
	return states
}

// boundsNear has the keys themselves and what lies close by, on both sides, and bounds that no key is as long as.
func boundsNear(s state) []string {
	bounds := []string{"", "\x00", "\xff", "a", "ab", "abb", "abcd", "c", "some/", "some0", strings.Repeat("\xff", api.MaxKey), strings.Repeat("\xff", 1000), strings.Repeat("a", api.MaxKey+1), strings.Repeat("k", api.MaxKey+1), strings.Repeat("\x00", 1000)}
	for i, key := range slices.Sorted(maps.Keys(s)) {
		if i > 20 {
			break
		}
		bounds = append(bounds, key, key+"\x00", key+"\xff", key+strings.Repeat("z", api.MaxKey))
		// A bound may leave a key at any byte, that is also within a node's prefix.
		for n := max(0, len(key)-6); n < len(key); n++ {
			head, b := key[:n], key[n]
			bounds = append(bounds, head, head+string([]byte{b - 1}), head+string([]byte{b + 1}))
		}
	}
	slices.Sort(bounds)
	return slices.Compact(bounds)
}

func TestScanExamples(t *testing.T) {
	s := numbered("", "a", "abc", "abd")
	x := s.index()
	mustGo(t, `Scan("a", "abd")`, x.Scan("a", "abd"), []Pair[int]{{"a", 2}, {"abc", 3}})
	mustGo(t, `Scan("b", "a")`, x.Scan("b", "a"), nil)
	mustGo(t, `Prefix("ab")`, x.Prefix("ab"), []Pair[int]{{"abc", 3}, {"abd", 4}})
	mustGo(t, `Prefix("")`, x.Prefix(""), []Pair[int]{{"", 1}, {"a", 2}, {"abc", 3}, {"abd", 4}})
	mustGo(t, `Scan("", "")`, x.Scan("", ""), []Pair[int]{{"", 1}, {"a", 2}, {"abc", 3}, {"abd", 4}})
	mustGo(t, `Scan("", "a")`, x.Scan("", "a"), []Pair[int]{{"", 1}})
}

func TestScanBounds(t *testing.T) {
	for _, s := range someStates() {
		x := s.index()
		bounds := boundsNear(s)
		for _, from := range bounds {
			for _, to := range bounds {
				mustScan(t, x, s, from, to)
			}
		}
	}
}

func TestPrefixBounds(t *testing.T) {
	for _, s := range someStates() {
		x := s.index()
		for _, p := range boundsNear(s) {
			mustPrefix(t, x, s, p)
		}
	}
}

func TestScanFullIndex(t *testing.T) {
	x := full(t)
	s := state{}
	for i := range api.MaxKeys {
		s[strconv.Itoa(i)] = i + 1
	}
	mustScan(t, x, s, "", "")
	mustScan(t, x, s, "1", "2")
	mustScan(t, x, s, "2999", "")
	mustPrefix(t, x, s, "")
	mustPrefix(t, x, s, "29")
}

func TestScanOfZeroValues(t *testing.T) {
	x := New[any]()
	x.Put("a", nil)
	x.Put("ab", nil)
	n := 0
	for key, v := range x.Scan("", "") {
		if v != nil {
			t.Errorf("P5: %q comes with %v", key, v)
		}
		n++
	}
	if n != 2 {
		t.Errorf("P5: %d of 2 keys without a value worth telling", n)
	}
}

// TestGoingIsLeft leaves at each pair: yield is not called again behind its false.
func TestGoingIsLeft(t *testing.T) {
	for _, s := range someStates() {
		x := s.index()
		for _, c := range []struct {
			what string
			seq  iter.Seq2[string, int]
			all  []Pair[int]
		}{
			{"Scan of all", x.Scan("", ""), s.between("", "")},
			{"Scan from a to some/b", x.Scan("a", "some/b"), s.between("a", "some/b")},
			{"Prefix of nothing", x.Prefix(""), s.beginning("")},
			{"Prefix of a", x.Prefix("a"), s.beginning("a")},
			{"Prefix of some/", x.Prefix("some/"), s.beginning("some/")},
		} {
			for n := range len(c.all) + 1 {
				mustLeave(t, c.what, c.seq, n+1, c.all[:min(n+1, len(c.all))])
			}
		}
	}
}

func mustLeave(t *testing.T, what string, seq iter.Seq2[string, int], at int, want []Pair[int]) {
	t.Helper()
	var got []Pair[int]
	seq(func(key string, v int) bool {
		got = append(got, Pair[int]{key, v})
		return len(got) < at
	})
	if !slices.Equal(got, want) {
		t.Fatalf("P5: %s, left at pair %d: %s, want %s", what, at, told(got), told(want))
	}
}

func TestOneFunctionTwice(t *testing.T) {
	s := numbered("", "a", "abc", "abd", "b")
	x := s.index()
	for what, seq := range map[string]iter.Seq2[string, int]{"Scan": x.Scan("a", "b"), "Prefix": x.Prefix("a")} {
		want := s.beginning("a")
		mustGo(t, what, seq, want)
		mustGo(t, what+" again", seq, want)
		mustLeave(t, what, seq, 1, want[:1])
		mustGo(t, what+" behind one that was left", seq, want)
		for range seq {
			mustGo(t, what+" within itself", seq, want)
		}
	}
}

// TestGoingsSideBySide: two goings of one function, begun at different times, each through its own state.
func TestGoingsSideBySide(t *testing.T) {
	x := numbered("a", "b", "c").index()
	for what, seq := range map[string]iter.Seq2[string, int]{"Scan": x.Scan("", ""), "Prefix": x.Prefix("")} {
		x.Put("d", 4)
		first, stopFirst := iter.Pull2(seq)
		mustNext(t, what, first, "a", 1)
		x.Delete("d")
		second, stopSecond := iter.Pull2(seq)
		mustNext(t, what, second, "a", 1)
		mustNext(t, what, second, "b", 2)
		mustNext(t, what, first, "b", 2)
		mustNext(t, what, first, "c", 3)
		mustNext(t, what, second, "c", 3)
		mustNext(t, what, first, "d", 4)
		if key, _, ok := second(); ok {
			t.Errorf("P5: %s begun behind the deletion of d goes through %q", what, key)
		}
		stopFirst()
		stopSecond()
	}
}

func mustNext(t *testing.T, what string, next func() (string, int, bool), key string, v int) {
	t.Helper()
	if k, w, ok := next(); k != key || w != v || !ok {
		t.Fatalf("P5: %s: next is %q, %d, %v, want %q, %d", what, k, w, ok, key, v)
	}
}

// TestChangesAheadOfTheGoing: what is done between the asking and the going is gone through.
func TestChangesAheadOfTheGoing(t *testing.T) {
	x := New[int]()
	scan, prefix := x.Scan("a", "c"), x.Prefix("a")
	mustGo(t, "Scan of nothing", scan, nil)
	mustGo(t, "Prefix of nothing", prefix, nil)
	for _, key := range []string{"", "a", "ab", "b", "c"} {
		x.Put(key, len(key))
	}
	mustGo(t, "Scan of keys that came", scan, []Pair[int]{{"a", 1}, {"ab", 2}, {"b", 1}})
	mustGo(t, "Prefix of keys that came", prefix, []Pair[int]{{"a", 1}, {"ab", 2}})
	x.Delete("a")
	x.Put("ab", 7)
	mustGo(t, "Scan of changed keys", scan, []Pair[int]{{"ab", 7}, {"b", 1}})
	mustGo(t, "Prefix of changed keys", prefix, []Pair[int]{{"ab", 7}})
	for _, key := range []string{"", "ab", "b", "c"} {
		x.Delete(key)
	}
	mustGo(t, "Scan of keys that went", scan, nil)
	mustGo(t, "Prefix of keys that went", prefix, nil)
}

// changes are what yield does with the index at a key.
func changes() map[string]func(x *Index[int], key string) {
	return map[string]func(x *Index[int], key string){
		"the key goes":         func(x *Index[int], key string) { x.Delete(key) },
		"the key gets another": func(x *Index[int], key string) { x.Put(key, -1) },
		"keys come close by": func(x *Index[int], key string) {
			for _, k := range []string{key + "\x00", key + "\xff", key + "x", key[:len(key)/2]} {
				x.Put(k, -2)
			}
		},
		"all keys go": func(x *Index[int], _ string) {
			for key := range x.Scan("", "") {
				x.Delete(key)
			}
		},
		"all others go": func(x *Index[int], key string) {
			for other := range x.Prefix("") {
				if other != key {
					x.Delete(other)
				}
			}
		},
		"what is behind changes": func(x *Index[int], key string) {
			for other := range x.Scan(key+"\x00", "") {
				x.Put(other, -3)
				x.Put(other+"y", -3)
				x.Delete(other)
			}
		},
		"a union with others": func(x *Index[int], key string) {
			x.Union(state{"": -5, "a": -5, key: -5, key[:len(key)/2]: -5, key + "x": -5}.index())
		},
		"a union with what is left of a copy": func(x *Index[int], key string) {
			y := x.Copy()
			y.Put(key+"y", -6)
			y.Put(key, -6)
			x.Delete(key)
			x.Union(y)
			y.Union(x)
		},
		"a union with itself": func(x *Index[int], key string) {
			x.Union(x)
			x.Delete(key)
			x.Union(x)
		},
		"a fill": func(x *Index[int], key string) {
			x.Fill([][]Pair[int]{{{key + "z", -7}, {"", -7}}, gone(x.Scan("", "")), {{key, -7}}, {{key + "\x00", -7}}})
		},
		"a fill of all, in other order": func(x *Index[int], _ string) {
			list := gone(x.Scan("", ""))
			slices.Reverse(list)
			for i := range list {
				list[i].Value = -8
			}
			x.Fill([][]Pair[int]{list, {{"some/new", -8}}})
		},
		"every byte comes": func(x *Index[int], key string) {
			for i := range 256 {
				x.Put(key[:len(key)/2]+string([]byte{byte(i)}), -4)
			}
		},
	}
}

func TestChangesMeanwhile(t *testing.T) {
	for what, change := range changes() {
		for _, s := range someStates() {
			x := s.index()
			mustGo(t, "Scan of all, while "+what, changing(x, x.Scan("", ""), change), s.between("", ""))
			x = s.index()
			mustGo(t, "Scan from a to some/b, while "+what, changing(x, x.Scan("a", "some/b"), change), s.between("a", "some/b"))
			x = s.index()
			mustGo(t, "Prefix of a, while "+what, changing(x, x.Prefix("a"), change), s.beginning("a"))
			x = s.index()
			mustGo(t, "Prefix of nothing, while "+what, changing(x, x.Prefix(""), change), s.beginning(""))
		}
	}
}

// changing goes through what is of the index, and changes the index at each pair.
func changing(x *Index[int], seq iter.Seq2[string, int], change func(*Index[int], string)) iter.Seq2[string, int] {
	return func(yield func(string, int) bool) {
		for key, v := range seq {
			change(x, key)
			if !yield(key, v) {
				return
			}
		}
	}
}

// TestChangesByYieldHold: what yield did is there for the next going, and while this one lasts for all other calls.
func TestChangesByYieldHold(t *testing.T) {
	x := numbered("a", "b", "c").index()
	seq := x.Scan("", "")
	for key, v := range seq {
		mustPut(t, x, key+key, 10*v, 0, false)
		mustGet(t, x, key+key, 10*v, true)
		mustDelete(t, x, key, v, true)
		mustLen(t, x, 3)
	}
	mustGo(t, "the next going", seq, []Pair[int]{{"aa", 10}, {"bb", 20}, {"cc", 30}})
	mustShape(t, x, flat(3))
}

// TestGoingLeavesNoTrace: going through changes nothing.
func TestGoingLeavesNoTrace(t *testing.T) {
	for _, s := range someStates() {
		x := s.index()
		shape := x.Shape()
		for range 2 {
			for range x.Scan("a", "b") {
			}
			for range x.Prefix("some/") {
				break
			}
		}
		mustShape(t, x, shape)
		mustLen(t, x, len(s))
		mustScan(t, x, s, "", "")
	}
}

// TestGoingsAmongManySides: each round changes "a" ahead of "z", so that no state of the index has a "z" that is ahead of "a", or more than one round behind.
func TestGoingsAmongManySides(t *testing.T) {
	const rounds = 3000
	x := numbered("a", "z").index()
	x.Put("z", 1)
	var all sync.WaitGroup
	all.Go(func() {
		for i := 2; i < rounds; i++ {
			x.Put("a", i)
			x.Put("m"+strconv.Itoa(i%50), i)
			x.Put("z", i)
			x.Delete("m" + strconv.Itoa(i*7%50))
		}
	})
	for range 4 {
		all.Go(func() {
			for range rounds {
				oneState(t, x.Scan("", ""))
				oneState(t, x.Prefix(""))
			}
		})
	}
	all.Wait()
}

func oneState(t *testing.T, seq iter.Seq2[string, int]) {
	a, z, last := 0, 0, ""
	for key, v := range seq {
		if last != "" && key <= last {
			t.Errorf("P5: %q comes behind %q", key, last)
		}
		last = key
		switch key {
		case "a":
			a = v
		case "z":
			z = v
		}
	}
	if z > a || z < a-1 || z == 0 {
		t.Errorf("P5: gone through a = %d, z = %d, which were never there together", a, z)
	}
}

func FuzzScan(f *testing.F) {
	f.Add(" a abc abd", "a", "abd")
	f.Add("\x00 \xff a\x00 a\xff", "a", "")
	f.Add("k kk kkk", strings.Repeat("k", 100), "l")
	f.Fuzz(func(t *testing.T, keys, from, to string) {
		x, s := New[int](), state{}
		for i, key := range strings.Split(keys, " ") {
			if _, _, e := x.Put(key, i); e == api.OK {
				s[key] = i
			}
		}
		mustScan(t, x, s, from, to)
		mustScan(t, x, s, from, "")
		mustPrefix(t, x, s, from)
		mustPrefix(t, x, s, to)
	})
}
