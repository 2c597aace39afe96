package tree

import (
	"maps"
	"slices"
	"strings"
	"testing"

	"trellis/api"
)

// defined makes the tree of some keys as the document defines it, from the keys alone.
func defined(values map[string]int, keys []string) *Tree[int] {
	if len(keys) == 0 {
		return nil
	}
	t := &Tree[int]{prefix: keys[0], size: len(keys)}
	for _, k := range keys {
		for !strings.HasPrefix(k, t.prefix) {
			t.prefix = t.prefix[:len(t.prefix)-1]
		}
	}
	groups := map[byte][]string{}
	for _, k := range keys {
		if k == t.prefix {
			v := values[k]
			t.value = &v
			continue
		}
		b := k[len(t.prefix)]
		groups[b] = append(groups[b], k)
	}
	for _, b := range slices.Sorted(maps.Keys(groups)) {
		t.branches = append(t.branches, defined(values, groups[b]))
	}
	return t
}

func equal(a, b *Tree[int]) bool {
	if a == nil || b == nil {
		return a == b
	}
	if a.prefix != b.prefix || a.size != b.size || (a.value == nil) != (b.value == nil) {
		return false
	}
	if a.value != nil && *a.value != *b.value {
		return false
	}
	return slices.EqualFunc(a.branches, b.branches, equal)
}

func check(t *testing.T, got *Tree[int], values map[string]int) {
	t.Helper()
	if !equal(got, defined(values, slices.Collect(maps.Keys(values)))) {
		t.Fatalf("P4, P9: the tree is not that of its %d keys", len(values))
	}
}

func numbers() func(below int) int {
	n := uint32(7)
	return func(below int) int {
		n = n*1664525 + 1013904223
		return int(n>>8) % below
	}
}

// someKey makes keys that often are each other's beginnings, of bytes at both ends of their range.
func someKey(next func(int) int) string {
	key := make([]byte, next(6))
	for i := range key {
		key[i] = "\x00\x01ab\x7f\x80\xfe\xff"[next(8)]
	}
	return string(key)
}

func TestTreeIsThatOfItsKeys(t *testing.T) {
	next := numbers()
	var tr *Tree[int]
	values := map[string]int{}
	for i := range 3000 {
		key := someKey(next)
		if next(5) < 2 {
			tr = tr.Without(key)
			delete(values, key)
		} else {
			tr = tr.With(key, i)
			values[key] = i
		}
		if i%10 == 0 {
			check(t, tr, values)
		}
	}
	for _, key := range slices.Sorted(maps.Keys(values)) {
		tr = tr.Without(key)
		delete(values, key)
		if len(values)%10 == 0 {
			check(t, tr, values)
		}
	}
	if tr != nil {
		t.Error("P4: a tree of no keys is left")
	}
}

// TestEarlierTreesStay: several trees are made of each of the latest ones, and all of them stay what they were.
func TestEarlierTreesStay(t *testing.T) {
	next := numbers()
	trees := []*Tree[int]{nil}
	states := []map[string]int{{}}
	for i := range 1000 {
		from := len(trees) - 1 - next(min(4, len(trees)))
		tr, values := trees[from], maps.Clone(states[from])
		key := "k" + string([]byte{byte(next(256))}) + someKey(next)
		if next(4) == 0 && len(values) > 0 {
			keys := slices.Sorted(maps.Keys(values))
			key = keys[next(len(keys))]
			tr = tr.Without(key)
			delete(values, key)
		} else {
			tr = tr.With(key, i)
			values[key] = i
		}
		trees = append(trees, tr)
		states = append(states, values)
	}
	for i := range trees {
		check(t, trees[i], states[i])
	}
}

// TestListsAreNotWrittenInto: two trees that put another branch into the same list do not meet there.
func TestListsAreNotWrittenInto(t *testing.T) {
	var base *Tree[int]
	values := map[string]int{}
	for i := range 127 {
		key := string([]byte{byte(2*i + 1)})
		base = base.With(key, i)
		values[key] = i
		for at := range 2*i + 4 {
			one, other := string([]byte{byte(at)})+"one", string([]byte{byte(at)})+"other"
			first := base.With(one, -1)
			second := base.With(other, -2)
			if v, had := first.Get(one); v != -1 || !had {
				t.Fatalf("P3: of %d branches: Get(%q) = %d, %v behind the making of another tree", i+1, one, v, had)
			}
			if v, had := second.Get(one); v != 0 || had {
				t.Fatalf("P3: of %d branches: Get(%q) = %d, %v in the other tree", i+1, one, v, had)
			}
		}
		check(t, base, values)
	}
}

func TestWithoutWhatIsNotThere(t *testing.T) {
	var none *Tree[int]
	if none.Without("") != nil || none.Without("a") != nil {
		t.Error("P3: no tree without a key is a tree")
	}
	tr := none.With("ab", 1).With("abcd", 2).With("abce", 3).With("b", 4)
	for _, key := range []string{"", "a", "abc", "abcdx", "abx", "c", "bb", strings.Repeat("a", api.MaxKey+1)} {
		if tr.Without(key) != tr {
			t.Errorf("P3: the tree without %q, which it has not, is another one", key)
		}
	}
}
