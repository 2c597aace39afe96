package tree

// Union makes the tree of the keys that are in one of the two at least; where both have a key, its value is over's.
func (t *Tree[V]) Union(over *Tree[V]) *Tree[V] {
	if t == nil || t == over {
		return over
	}
	if over == nil {
		return t
	}
	same := sharedLength(t.prefix, over.prefix)
	value, branches := t.seenFrom(same)
	valueOver, branchesOver := over.seenFrom(same)
	if valueOver != nil {
		value = valueOver
	}
	return joined(t.prefix[:same], value, merged(branches, branchesOver, same))
}

// seenFrom tells what a tree is to a node whose prefix is the first bytes of the tree's own: one of the branches, or, if that is the whole prefix, the node itself.
func (t *Tree[V]) seenFrom(bytes int) (*V, []*Tree[V]) {
	if bytes < len(t.prefix) {
		return nil, []*Tree[V]{t}
	}
	return t.value, t.branches
}
