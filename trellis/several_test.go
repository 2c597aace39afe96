package trellis

import (
	"maps"
	"strconv"
	"strings"
	"sync"
	"sync/atomic"
	"testing"

	"trellis/api"
	"trellis/tree"
)

// mustBe: the index has these keys and values, and their tree.
func mustBe(t *testing.T, what string, x *Index[int], s state) {
	t.Helper()
	if x == nil {
		t.Fatalf("%s: no index", what)
	}
	mustGo(t, what+": Scan of all", x.Scan("", ""), s.between("", ""))
	for key, v := range s {
		mustGet(t, x, key, v, true)
	}
	mustLen(t, x, len(s))
	mustShape(t, x, s.index().Shape())
}

func mustUnite(t *testing.T, x, other *Index[int], want api.Errno) {
	t.Helper()
	if e := x.Union(other); e != want {
		t.Fatalf("P6: Union of %d and %d keys: %d, want %d", x.Len(), other.Len(), e, want)
	}
}

func (s state) with(over state) state {
	both := maps.Clone(s)
	maps.Copy(both, over)
	return both
}

func (s state) plus(n int) state {
	more := state{}
	for key, v := range s {
		more[key] = v + n
	}
	return more
}

// counted has so many keys, of numbers from first on.
func counted(prefix string, first, keys int) state {
	s := state{}
	for i := range keys {
		s[prefix+strconv.Itoa(first+i)] = first + i
	}
	return s
}

func TestCopyHasTheSame(t *testing.T) {
	for _, s := range append(someStates(), counted("", 0, api.MaxKeys)) {
		x := s.index()
		y := x.Copy()
		if x == y {
			t.Fatal("P6: a copy is the index itself")
		}
		mustBe(t, "P6: the copy", y, s)
		mustBe(t, "P6: what was copied", x, s)
	}
}

// TestCopiesAreApart changes each of an index, its copy and that one's copy, in all ways that there are.
func TestCopiesAreApart(t *testing.T) {
	ways := map[string]func(x *Index[int]){
		"a key comes":     func(x *Index[int]) { x.Put("new", -1) },
		"all get another": func(x *Index[int]) { x.Fill([][]Pair[int]{gone(x.Scan("", "")), {{"", -1}}}) },
		"all go": func(x *Index[int]) {
			for key := range x.Scan("", "") {
				x.Delete(key)
			}
		},
		"a union": func(x *Index[int]) { x.Union(numbered("", "a", "other", "some/x").plus(-100).index()) },
	}
	for what, way := range ways {
		for _, s := range someStates() {
			for changed := range 3 {
				x := s.index()
				y := x.Copy()
				all := []*Index[int]{x, y, y.Copy()}
				way(all[changed])
				for i, other := range all {
					if i != changed {
						mustBe(t, "P6: "+what+" in another one", other, s)
					}
				}
			}
		}
	}
}

func TestCopyChangedOnBothSides(t *testing.T) {
	x := numbered("a", "ab", "b").index()
	y := x.Copy()
	mustPut(t, y, "ab", 20, 2, true)
	mustPut(t, y, "c", 30, 0, false)
	mustDelete(t, y, "a", 1, true)
	mustPut(t, x, "b", 40, 3, true)
	mustPut(t, x, "abc", 50, 0, false)
	mustBe(t, "P6: the index", x, state{"a": 1, "ab": 2, "abc": 50, "b": 40})
	mustBe(t, "P6: the copy", y, state{"ab": 20, "b": 3, "c": 30})
}

// TestFullCopies: each of two copies has its own bound.
func TestFullCopies(t *testing.T) {
	x := full(t)
	y := x.Copy()
	mustDelete(t, y, "7", 8, true)
	mustPut(t, y, "more", 1, 0, false)
	if _, _, e := y.Put("7", 1); e != api.ErrFull {
		t.Errorf("P3: Put into a full copy: %d", e)
	}
	if _, _, e := x.Put("more", 1); e != api.ErrFull {
		t.Errorf("P3: Put into what was copied: %d", e)
	}
	mustGet(t, x, "7", 8, true)
}

func TestUnionOfEachTwo(t *testing.T) {
	longest := strings.Repeat("k", api.MaxKey)
	states := append(someStates(),
		numbered("a"), numbered("abc"), numbered("abd"), numbered("abcd"), numbered("xa", "xb"), numbered("ya", "yb"), numbered("xyza", "xyzb"), numbered("xy", "xya"),
		numbered("", "ab", "abc", "b"), numbered(longest), numbered(longest[1:]+"l", "l"), numbered("\x00"), numbered("\xff"),
	)
	for _, s := range states {
		for _, over := range states {
			over = over.plus(1000)
			x, y := s.index(), over.index()
			mustUnite(t, x, y, api.OK)
			mustBe(t, "P6: the union", x, s.with(over))
			mustBe(t, "P6: the other one", y, over)
			mustUnite(t, x, y, api.OK)
			mustBe(t, "P6: the union again", x, s.with(over))
		}
	}
}

func TestUnionWithItself(t *testing.T) {
	for _, s := range append(someStates(), counted("", 0, api.MaxKeys)) {
		x := s.index()
		mustUnite(t, x, x, api.OK)
		mustBe(t, "P6: in union with itself", x, s)
		y := x.Copy()
		mustUnite(t, x, y, api.OK)
		mustBe(t, "P6: in union with a copy", x, s)
		mustBe(t, "P6: the copy", y, s)
		mustUnite(t, y, x, api.OK)
		mustBe(t, "P6: a copy in union with what it is of", y, s)
	}
}

func TestUnionWithAChangedCopy(t *testing.T) {
	x := numbered("a", "ab", "abc", "b").index()
	y := x.Copy()
	y.Put("ab", 20)
	y.Put("abd", 30)
	y.Delete("b")
	x.Put("a", 10)
	x.Delete("abc")
	mustUnite(t, x, y, api.OK)
	mustBe(t, "P6: the union", x, state{"a": 1, "ab": 20, "abc": 3, "abd": 30, "b": 4})
	mustBe(t, "P6: the copy", y, state{"a": 1, "ab": 20, "abc": 3, "abd": 30})
}

func TestUnionOfZeroValues(t *testing.T) {
	x, y := New[*int](), New[*int]()
	x.Put("a", new(int))
	y.Put("a", nil)
	y.Put("b", nil)
	if e := x.Union(y); e != api.OK || x.Len() != 2 {
		t.Errorf("P6: Union = %d, Len %d", e, x.Len())
	}
	mustGet(t, x, "a", nil, true)
	mustGet(t, x, "b", nil, true)
}

// TestUnitedAreApart: what is done with one of two behind their union is not seen in the other.
func TestUnitedAreApart(t *testing.T) {
	for _, s := range someStates() {
		over := numbered("", "a", "abx", "some/q", "z").plus(1000)
		x, y := s.index(), over.index()
		mustUnite(t, x, y, api.OK)
		y.Put("abx", -1)
		y.Put("zz", -1)
		y.Delete("a")
		mustBe(t, "P6: the union, the other one changed", x, s.with(over))
		y = over.index()
		mustUnite(t, x, y, api.OK)
		for key := range x.Scan("", "") {
			x.Put(key, -2)
			x.Put(key+"\x00", -2)
			x.Delete(key)
		}
		mustBe(t, "P6: the other one, the union changed", y, over)
	}
}

func TestUnionUpToTheBound(t *testing.T) {
	const half = api.MaxKeys / 2
	for _, c := range []struct {
		s, over state
		want    api.Errno
	}{
		{counted("x", 0, half), counted("y", 0, half), api.OK},
		{counted("x", 0, half), counted("y", 0, half+1), api.ErrFull},
		{counted("", 0, 2000), counted("", 1000, 2000), api.OK},
		{counted("", 0, 2000), counted("", 1000, 2001), api.ErrFull},
		{counted("", 0, 2000), counted("", 999, 2001), api.OK},
		{counted("", 0, api.MaxKeys), counted("", 0, api.MaxKeys).plus(1), api.OK},
		{counted("", 0, api.MaxKeys), counted("", 1, api.MaxKeys), api.ErrFull},
		{counted("", 0, api.MaxKeys), counted("x", 0, api.MaxKeys), api.ErrFull},
		{counted("", 0, api.MaxKeys), state{}, api.OK},
		{state{}, counted("", 0, api.MaxKeys), api.OK},
		{counted("", 0, api.MaxKeys), state{"": 1}, api.ErrFull},
		{state{"": 1}, counted("", 0, api.MaxKeys), api.ErrFull},
		{state{"": 1}, counted("", 0, api.MaxKeys-1), api.OK},
		{counted("", 0, api.MaxKeys), state{"0": -1, "2999": -1}, api.OK},
		{counted("", 0, api.MaxKeys), state{"0": -1, "3000": -1}, api.ErrFull},
	} {
		x, y := c.s.index(), c.over.index()
		mustUnite(t, x, y, c.want)
		want := c.s
		if c.want == api.OK {
			want = c.s.with(c.over)
		}
		mustBe(t, "P6: at the bound", x, want)
		mustBe(t, "P6: the other one, at the bound", y, c.over)
	}
}

// TestUnionsOfSeveralSides: whatever is united or put meanwhile, no key is lost.
func TestUnionsOfSeveralSides(t *testing.T) {
	const sides, each = 8, 100
	x := New[int]()
	var all sync.WaitGroup
	for side := range sides {
		all.Go(func() {
			for i := range each {
				x.Put("put"+strconv.Itoa(side*each+i), 1)
				x.Union(counted("united", 2*(side*each+i), 2).index())
				x.Copy().Put("never", 1)
			}
		})
	}
	all.Wait()
	mustLen(t, x, 3*sides*each)
	mustGet(t, x, "never", 0, false)
}

// TestUnionIsOneChange: each union changes all three keys, so that no going finds them different.
func TestUnionIsOneChange(t *testing.T) {
	x := state{"a": 0, "m": 0, "z": 0}.index()
	var done atomic.Bool
	var all sync.WaitGroup
	for side := range 2 {
		all.Go(func() {
			for i := range 2000 {
				v := 2*i + side
				x.Union(state{"a": v, "m": v, "z": v}.index())
			}
			done.Store(true)
		})
	}
	all.Go(func() { mustAgree(t, x, &done) })
	all.Wait()
}

// mustAgree goes through the index, and through copies of it, until it is done: all keys have one value.
func mustAgree(t *testing.T, x *Index[int], done *atomic.Bool) {
	for !done.Load() {
		for _, list := range [][]Pair[int]{gone(x.Scan("", "")), gone(x.Copy().Prefix(""))} {
			for _, p := range list {
				if p.Value != list[0].Value {
					t.Errorf("P6, P7: half changed: %s", told(list))
					return
				}
			}
		}
	}
}

// TestUnionWithItselfMeanwhile: what went is not there again, and a full index has no more keys than itself.
func TestUnionWithItselfMeanwhile(t *testing.T) {
	for _, s := range []state{{"ab": 1}, counted("", 0, api.MaxKeys-1).with(state{"ab": 1})} {
		x := s.index()
		var done atomic.Bool
		var all sync.WaitGroup
		for range 2 {
			all.Go(func() {
				for !done.Load() {
					if e := x.Union(x); e != api.OK {
						t.Errorf("P6: Union with itself, meanwhile changed: %d", e)
						return
					}
				}
			})
		}
		all.Go(func() {
			defer done.Store(true)
			for range 10000 {
				_, hadOne := x.Delete("ab")
				_, came, e := x.Put("b", 2)
				_, hadOther := x.Delete("b")
				_, cameBack, eBack := x.Put("ab", 1)
				if !hadOne || came || e != api.OK || !hadOther || cameBack || eBack != api.OK {
					t.Error("P6: a union with itself changes the index")
					return
				}
			}
		})
		all.Wait()
		mustBe(t, "P6: in union with itself", x, s)
	}
}

// TestUnionsEachWithTheOther: neither waits for the other.
func TestUnionsEachWithTheOther(t *testing.T) {
	x, y := New[int](), New[int]()
	var all sync.WaitGroup
	all.Go(func() {
		for i := range 500 {
			x.Put("x"+strconv.Itoa(i), i)
			x.Union(y)
		}
	})
	all.Go(func() {
		for i := range 500 {
			y.Put("y"+strconv.Itoa(i), i)
			y.Union(x)
		}
	})
	all.Wait()
	mustUnite(t, x, y, api.OK)
	mustUnite(t, y, x, api.OK)
	want := counted("x", 0, 500).with(counted("y", 0, 500))
	mustBe(t, "P6: one of two", x, want)
	mustBe(t, "P6: the other of two", y, want)
}

// TestChangeBeginsAgain: what was worked out of a tree that is no longer in place, a refusal too, does not hold.
func TestChangeBeginsAgain(t *testing.T) {
	for _, c := range []struct {
		meanwhile func(x *Index[int])
		want      api.Errno
		keys      int
	}{
		{func(x *Index[int]) {}, api.ErrFull, api.MaxKeys},
		{func(x *Index[int]) { x.Delete("7") }, api.OK, api.MaxKeys},
		{func(x *Index[int]) { x.Delete("7"); x.Delete("8") }, api.OK, api.MaxKeys - 1},
		{func(x *Index[int]) { x.Delete("7"); x.Put("8", 0) }, api.OK, api.MaxKeys},
		{func(x *Index[int]) { x.Delete("7"); x.Put("other", 0) }, api.ErrFull, api.MaxKeys},
	} {
		x, times := full(t), 0
		e := x.change(func(old *tree.Tree[int]) *tree.Tree[int] {
			if times++; times == 1 {
				c.meanwhile(x)
			}
			return old.With("more", 1)
		})
		if e != c.want || x.Len() != c.keys {
			t.Errorf("P6, P7: a change of what changes meanwhile: %d, Len %d, want %d, %d", e, x.Len(), c.want, c.keys)
		}
		if _, had := x.Get("more"); had != (e == api.OK) {
			t.Errorf("P1: answered %d, and the key is there: %v", e, had)
		}
	}
}

// TestUnionAndFillAtEachPair: what yield did by them is there for all other calls at once, and for the next going.
func TestUnionAndFillAtEachPair(t *testing.T) {
	s := numbered("", "a", "ab", "b")
	x := s.index()
	want := s.with(nil)
	seq := x.Scan("", "")
	mustGo(t, "Scan, while there are unions and fills", changing(x, seq, func(x *Index[int], key string) {
		united := state{key + "u": 10, key: 11, "v": len(key)}
		mustUnite(t, x, united.index(), api.OK)
		want = want.with(united)
		mustBe(t, "P6: the union at a pair", x, want)
		parts := [][]Pair[int]{{{key + "f", 20}, {key, 21}}, {{"v", 22}, {key, 23}}}
		mustFill(t, x, parts, api.OK)
		want = want.put(parts)
		mustBe(t, "P7: filled at a pair", x, want)
	}), s.between("", ""))
	mustGo(t, "the next going", seq, want.between("", ""))
}

// TestGoingThroughTheOther: a union at each pair of the other one, of a copy, and of what the copy is of.
func TestGoingThroughTheOther(t *testing.T) {
	for _, s := range someStates() {
		over := numbered("", "a", "abx", "some/q", "z").plus(1000)
		x, y := s.index(), over.index()
		mustGo(t, "Scan of the other one", changing(x, y.Scan("", ""), func(x *Index[int], key string) {
			x.Union(y)
			y.Put(key, -1)
			y.Delete("z")
		}), over.between("", ""))
		y = x.Copy()
		want := gone(x.Scan("", ""))
		mustGo(t, "Scan of a copy", changing(x, y.Scan("", ""), func(x *Index[int], key string) {
			x.Delete(key)
			x.Fill([][]Pair[int]{{{key + "!", -2}}})
		}), want)
		x = y.Copy()
		mustGo(t, "Prefix of what was copied", changing(x, y.Prefix(""), func(x *Index[int], key string) {
			x.Put(key, -3)
			x.Put(key+"?", -3)
		}), want)
	}
}

func FuzzUnion(f *testing.F) {
	f.Add("a ab ax", " ab abc b")
	f.Add("xyza xyzb", "xy xya")
	f.Add("\x00 \xff", "\x00\x00 \xff\xff")
	f.Fuzz(func(t *testing.T, keys, overKeys string) {
		s, over := wordsOf(keys, 0), wordsOf(overKeys, 100000)
		if len(s.with(over)) > api.MaxKeys {
			t.Skip()
		}
		x, y := s.index(), over.index()
		mustUnite(t, x, y, api.OK)
		mustBe(t, "P6: the union", x, s.with(over))
		mustBe(t, "P6: the other one", y, over)
	})
}

func wordsOf(text string, first int) state {
	s := state{}
	for i, key := range strings.Split(text, " ") {
		if len(key) <= api.MaxKey {
			s[key] = first + i
		}
	}
	return s
}
