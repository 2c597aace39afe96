// Package tree: trees of keys with values. A tree is never changed once it is made: a change makes another one that shares what stays.
package tree

import (
	"cmp"
	"slices"
	"strings"
)

// Tree is the tree of some keys; nil is the tree of none.
//
// The prefix is held whole, from the keys' first byte on, so that a branch can take the place of its node as it is.
type Tree[V any] struct {
	prefix   string
	value    *V         // nil: the prefix is none of the keys
	branches []*Tree[V] // in the order of the byte behind the prefix; of a leaf none
	size     int
}

// Size tells how many keys there are.
func (t *Tree[V]) Size() int {
	if t == nil {
		return 0
	}
	return t.size
}

// Get tells a key's value, and whether there is one.
func (t *Tree[V]) Get(key string) (V, bool) {
	for t != nil && strings.HasPrefix(key, t.prefix) {
		if len(key) == len(t.prefix) {
			return t.own()
		}
		t = t.branch(key)
	}
	var none V
	return none, false
}

// With makes the tree in which the key has this value.
func (t *Tree[V]) With(key string, v V) *Tree[V] {
	return t.with(key, &v)
}

// Without makes the tree that has not this key; it is the same one if the key was not there.
func (t *Tree[V]) Without(key string) *Tree[V] {
	if t == nil || !strings.HasPrefix(key, t.prefix) {
		return t
	}
	if len(key) == len(t.prefix) {
		return t.withoutOwn()
	}
	at, found := t.place(key)
	if !found {
		return t
	}
	old := t.branches[at]
	changed := old.Without(key)
	if changed == old {
		return t
	}
	if changed == nil {
		return settled(t.prefix, t.value, removed(t.branches, at))
	}
	return settled(t.prefix, t.value, replaced(t.branches, at, changed))
}

func (t *Tree[V]) with(key string, v *V) *Tree[V] {
	if t == nil {
		return joined(key, v, nil)
	}
	same := sharedLength(key, t.prefix)
	if same < len(t.prefix) {
		return t.forked(key, v, same)
	}
	if same == len(key) {
		return joined(t.prefix, v, t.branches)
	}
	at, found := t.place(key)
	if !found {
		return joined(t.prefix, t.value, inserted(t.branches, at, joined(key, v, nil)))
	}
	return joined(t.prefix, t.value, replaced(t.branches, at, t.branches[at].with(key, v)))
}

// forked makes the node above t and a key that leaves t's prefix behind its first same bytes.
func (t *Tree[V]) forked(key string, v *V, same int) *Tree[V] {
	if same == len(key) {
		return joined(key, v, []*Tree[V]{t})
	}
	leaf := joined(key, v, nil)
	if key[same] < t.prefix[same] {
		return joined(key[:same], nil, []*Tree[V]{leaf, t})
	}
	return joined(key[:same], nil, []*Tree[V]{t, leaf})
}

func (t *Tree[V]) own() (V, bool) {
	if t.value == nil {
		var none V
		return none, false
	}
	return *t.value, true
}

func (t *Tree[V]) withoutOwn() *Tree[V] {
	if t.value == nil {
		return t
	}
	return settled(t.prefix, nil, t.branches)
}

// branch tells the branch of a key that is longer than the prefix and begins with it; nil if there is none.
func (t *Tree[V]) branch(key string) *Tree[V] {
	at, found := t.place(key)
	if !found {
		return nil
	}
	return t.branches[at]
}

// place tells where the branch of such a key stands, or would stand.
func (t *Tree[V]) place(key string) (int, bool) {
	behind := len(t.prefix)
	return slices.BinarySearchFunc(t.branches, key[behind], func(b *Tree[V], c byte) int {
		return cmp.Compare(b.prefix[behind], c)
	})
}

func joined[V any](prefix string, value *V, branches []*Tree[V]) *Tree[V] {
	size := 0
	if value != nil {
		size = 1
	}
	for _, b := range branches {
		size += b.size
	}
	return &Tree[V]{prefix: prefix, value: value, branches: branches, size: size}
}

// settled is joined for what may have become too little for a node.
func settled[V any](prefix string, value *V, branches []*Tree[V]) *Tree[V] {
	if value == nil && len(branches) == 0 {
		return nil
	}
	if value == nil && len(branches) == 1 {
		return branches[0]
	}
	return joined(prefix, value, branches)
}

func sharedLength(a string, b string) int {
	n := 0
	for n < len(a) && n < len(b) && a[n] == b[n] {
		n++
	}
	return n
}
