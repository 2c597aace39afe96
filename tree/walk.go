package tree

import "strings"

// Walk goes through the keys from from to to (to empty: all that are not ahead of from), in order. It answers false once nothing behind is to be gone through: yield said so, or to is reached.
func (t *Tree[V]) Walk(from string, to string, yield func(string, V) bool) bool {
	if t == nil {
		return true
	}
	if to != "" && t.prefix >= to {
		return false
	}
	if t.prefix < from {
		return t.walkBehind(from, to, yield)
	}
	if t.value != nil && !yield(t.prefix, *t.value) {
		return false
	}
	return walkAll(t.branches, from, to, yield)
}

// walkBehind is Walk where the prefix is ahead of from: either all keys are ahead of it, or from begins with the prefix and leads into one of the branches.
func (t *Tree[V]) walkBehind(from string, to string, yield func(string, V) bool) bool {
	if !strings.HasPrefix(from, t.prefix) {
		return true
	}
	at, _ := t.place(from)
	return walkAll(t.branches[at:], from, to, yield)
}

func walkAll[V any](branches []*Tree[V], from string, to string, yield func(string, V) bool) bool {
	for _, b := range branches {
		if !b.Walk(from, to, yield) {
			return false
		}
	}
	return true
}
