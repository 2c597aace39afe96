package tree

import (
	"maps"
	"slices"
	"strings"
	"testing"

	"trellis/api"
)

// grown makes the tree of some keys, key by key.
func grown(values map[string]int) *Tree[int] {
	var t *Tree[int]
	for _, key := range slices.Sorted(maps.Keys(values)) {
		t = t.With(key, values[key])
	}
	return t
}

func valued(v int, keys ...string) map[string]int {
	values := map[string]int{}
	for i, key := range keys {
		values[key] = v + i
	}
	return values
}

// checkUnion makes the union of two trees, and looks at all three.
func checkUnion(t *testing.T, one, two *Tree[int], values, over map[string]int) *Tree[int] {
	t.Helper()
	want := maps.Clone(values)
	maps.Copy(want, over)
	both := one.Union(two)
	check(t, both, want)
	check(t, one, values)
	check(t, two, over)
	return both
}

func bytesFrom(prefix string, first, step int) []string {
	var keys []string
	for i := first; i < 256; i += step {
		keys = append(keys, prefix+string([]byte{byte(i)}))
	}
	return keys
}

func TestUnionOfEachTwo(t *testing.T) {
	longest := strings.Repeat("k", api.MaxKey)
	lists := [][]string{
		nil, {""}, {"a"}, {"b"}, {"ab"}, {"abc"}, {"abd"}, {"abcd"}, {"\x00"}, {"\xff"},
		{"", "a"}, {"", "abc"}, {"a", "ab", "abc"}, {"a", "ab", "ax"}, {"", "ab", "abc", "b"},
		{"abc", "abd"}, {"abca", "abcb"}, {"abda", "abdb"}, {"ab", "abcx", "abcy"}, {"abx", "aby"},
		{"xa", "xb"}, {"ya", "yb"}, {"xyza", "xyzb"}, {"xy", "xya"},
		{"\x00\x00", "\x00\xff"}, {"\xff\x00", "\xff\xff"}, {"", "\x00", "\xff"},
		{longest}, {longest[1:]}, {longest, longest[1:]}, {longest[1:] + "\x00", longest[1:] + "\xff"},
		bytesFrom("", 0, 1), bytesFrom("", 0, 2), bytesFrom("", 1, 2), bytesFrom("", 3, 60), bytesFrom("", 1, 16), bytesFrom("", 200, 1),
		bytesFrom("ab", 0, 1), bytesFrom("ab", 0, 3), bytesFrom("ab", 1, 3), bytesFrom("abc", 99, 100),
	}
	for _, one := range lists {
		for _, two := range lists {
			values, over := valued(1000, one...), valued(2000, two...)
			checkUnion(t, grown(values), grown(over), values, over)
		}
	}
}

// TestUnionsStay: unions of earlier trees, and changes of these, leave all trees what they were.
func TestUnionsStay(t *testing.T) {
	next := numbers()
	trees := []*Tree[int]{nil}
	states := []map[string]int{{}}
	for i := range 600 {
		one, two := next(len(trees)), next(len(trees))
		tr, values := trees[one], maps.Clone(states[one])
		switch next(3) {
		case 0:
			tr = tr.Union(trees[two])
			maps.Copy(values, states[two])
		case 1:
			keys := append(slices.Sorted(maps.Keys(values)), "none")
			key := keys[next(len(keys))]
			tr = tr.Without(key)
			delete(values, key)
		default:
			for range next(40) {
				key := someKey(next)
				tr = tr.With(key, i)
				values[key] = i
			}
		}
		trees = append(trees, tr)
		states = append(states, values)
	}
	for i := range trees {
		check(t, trees[i], states[i])
	}
}

// TestUnionListsAreNotWrittenInto: what is put into a union, and into the two that it is of, does not meet in one list.
func TestUnionListsAreNotWrittenInto(t *testing.T) {
	for _, lists := range [][2][]string{
		{{"a", "c"}, {"e", "g"}}, {{"a", "c"}, {"a", "c"}}, {{"a", "c", "e"}, {"c", "e", "g"}}, {{""}, {"a", "c"}}, {{"a", "c"}, {""}}, {nil, {"a", "c"}}, {{"a", "c"}, nil}, {{"ka", "kc", "ke"}, {"k"}},
	} {
		values, over := valued(1, lists[0]...), valued(10, lists[1]...)
		one, two := grown(values), grown(over)
		both := one.Union(two)
		want := maps.Clone(values)
		maps.Copy(want, over)
		for _, key := range []string{"\x00", "b", "d", "h", "kb", "kz"} {
			first := both.With(key+"1", -1)
			second := both.With(key+"2", -2)
			third := one.With(key+"3", -3)
			fourth := two.With(key+"4", -4)
			for i, tr := range []*Tree[int]{first, second, third, fourth} {
				for j, tail := range []string{"1", "2", "3", "4"} {
					if _, had := tr.Get(key + tail); had != (i == j) {
						t.Errorf("P6: of %q with %q: %q in tree %d: %v", lists[0], lists[1], key+tail, i+1, had)
					}
				}
			}
			checkUnion(t, one, two, values, over)
			check(t, both, want)
		}
	}
}

func TestUnionSharesWhatStays(t *testing.T) {
	one := grown(valued(1, "ab", "ac", "ba", "bb", "ca", "cb"))
	two := grown(valued(10, "bc", "bd", "da", "db"))
	if one.Union(nil) != one || (*Tree[int])(nil).Union(one) != one || one.Union(one) != one {
		t.Error("P6: a union with nothing, or with itself, is made anew")
	}
	both := one.Union(two)
	for _, c := range []struct {
		from *Tree[int]
		key  string
	}{{one, "a"}, {one, "c"}, {two, "d"}} {
		if both.branch(c.key) != c.from.branch(c.key) {
			t.Errorf("P6: the branch %q, which one of the two alone has, is made anew", c.key)
		}
	}
}
