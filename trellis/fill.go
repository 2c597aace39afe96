package trellis

import (
	"strings"
	"sync"

	"trellis/api"
	"trellis/tree"
)

// treeOfParts makes the tree of all pairs; of the values of one key the last one holds. ErrKey: a key is too long.
func treeOfParts[V any](parts [][]Pair[V]) (*tree.Tree[V], api.Errno) {
	trees := make([]*tree.Tree[V], len(parts))
	errnos := make([]api.Errno, len(parts))
	var all sync.WaitGroup
	for i, part := range parts {
		all.Go(func() { trees[i], errnos[i] = treeOfPart(part) })
	}
	all.Wait()
	var whole *tree.Tree[V]
	for i := range parts {
		if errnos[i] != api.OK {
			return nil, errnos[i]
		}
		whole = whole.Union(trees[i])
	}
	return whole, api.OK
}

// treeOfPart looks at all keys ahead of the first pair: a long key counts for more than too many keys.
func treeOfPart[V any](part []Pair[V]) (*tree.Tree[V], api.Errno) {
	for _, p := range part {
		if len(p.Key) > api.MaxKey {
			return nil, api.ErrKey
		}
	}
	var t *tree.Tree[V]
	for _, p := range part {
		if t.Size() > api.MaxKeys {
			break // what is behind makes them no fewer
		}
		t = t.With(strings.Clone(p.Key), p.Value) // cloned as in Put
	}
	return t, api.OK
}
