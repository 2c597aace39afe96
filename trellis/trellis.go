// Package trellis: an index that is never half changed: see DOC.md.
package trellis

import (
	"strings"
	"sync/atomic"

	"trellis/api"
	"trellis/tree"
	"trellis/tuples"
)

// Index keeps values by keys.
type Index[V any] struct {
	tree atomic.Pointer[tree.Tree[V]]
}

// Pair is a key with its value.
type Pair[V any] struct {
	Key   string
	Value V
}

// New makes an index without keys (P3).
func New[V any]() *Index[V] { return &Index[V]{} }

// Put gives a key a value (P3).
func (x *Index[V]) Put(key string, v V) (V, bool, api.Errno) {
	var none V
	if len(key) > api.MaxKey {
		return none, false, api.ErrKey
	}
	key = strings.Clone(key) // it may be cut from a long text, which is not ours to keep
	for {
		old := x.tree.Load()
		was, had := old.Get(key)
		if !had && old.Size() >= api.MaxKeys {
			return none, false, api.ErrFull
		}
		if x.tree.CompareAndSwap(old, old.With(key, v)) {
			return was, had, api.OK
		}
	}
}

// Get tells a key's value (P3).
func (x *Index[V]) Get(key string) (V, bool) { return x.tree.Load().Get(key) }

// Delete takes a key away (P3).
func (x *Index[V]) Delete(key string) (V, bool) {
	for {
		old := x.tree.Load()
		was, had := old.Get(key)
		if !had || x.tree.CompareAndSwap(old, old.Without(key)) {
			return was, had
		}
	}
}

// Len tells how many keys there are (P3).
func (x *Index[V]) Len() int { return x.tree.Load().Size() }

// Shape tells of the tree (P4).
func (x *Index[V]) Shape() api.Shape { return x.tree.Load().Shape() }

// Scan goes through the keys from one to another (P5).
func (x *Index[V]) Scan(from string, to string) func(yield func(string, V) bool) {
	return func(yield func(string, V) bool) {
		// Loaded in here, once: a going is through the tree of the moment when it begins, not of the one when Scan was asked.
		x.tree.Load().Walk(from, to, yield)
	}
}

// Prefix goes through the keys that begin so (P5).
func (x *Index[V]) Prefix(p string) func(yield func(string, V) bool) {
	return func(yield func(string, V) bool) {
		for key, v := range x.Scan(p, "") {
			// What begins with p comes ahead of all else that is not ahead of p.
			if !strings.HasPrefix(key, p) || !yield(key, v) {
				return
			}
		}
	}
}

// Copy makes an index that has the same (P6).
func (x *Index[V]) Copy() *Index[V] {
	y := New[V]()
	y.tree.Store(x.tree.Load())
	return y
}

// Union takes another one's keys and values (P6).
func (x *Index[V]) Union(other *Index[V]) api.Errno {
	if x == other {
		return api.OK // loaded twice, it might be in union with another state of its own
	}
	return x.change(func(old *tree.Tree[V]) *tree.Tree[V] {
		return old.Union(other.tree.Load())
	})
}

// Fill puts pairs (P7).
func (x *Index[V]) Fill(parts [][]Pair[V]) api.Errno {
	if len(parts) > api.MaxParts {
		return api.ErrParts
	}
	filled, e := treeOfParts(parts)
	if e != api.OK {
		return e
	}
	return x.change(func(old *tree.Tree[V]) *tree.Tree[V] {
		return old.Union(filled)
	})
}

// change puts the tree that made makes of the index's one in its place, if it has not too many keys.
func (x *Index[V]) change(made func(old *tree.Tree[V]) *tree.Tree[V]) api.Errno {
	for {
		old := x.tree.Load()
		changed, e := made(old), api.OK
		if changed.Size() > api.MaxKeys {
			changed, e = old, api.ErrFull // swapped for itself: a refusal, too, is of a tree that is still in place
		}
		if x.tree.CompareAndSwap(old, changed) {
			return e
		}
	}
}

// Encode makes a key of a tuple (P8).
func Encode(schema []int, tuple []api.Value) (string, api.Errno) {
	if !tuples.IsSchema(schema) {
		return "", api.ErrSchema
	}
	if !tuples.IsTuple(schema, tuple) {
		return "", api.ErrTuple
	}
	return tuples.Code(schema, tuple), api.OK
}

// Decode makes a tuple of a key (P8).
func Decode(schema []int, text string) ([]api.Value, api.Errno) {
	if !tuples.IsSchema(schema) {
		return nil, api.ErrSchema
	}
	tuple, ok := tuples.Read(schema, text)
	if !ok {
		return nil, api.ErrForm
	}
	return tuple, api.OK
}
