package tree

// Other trees hold these lists too. The third index leaves append no room in them, so it puts what comes behind the cut into new memory.

func inserted[V any](list []*Tree[V], at int, b *Tree[V]) []*Tree[V] {
	return append(append(list[:at:at], b), list[at:]...)
}

func replaced[V any](list []*Tree[V], at int, b *Tree[V]) []*Tree[V] {
	return append(append(list[:at:at], b), list[at+1:]...)
}

// removed copies the beginning as well: a mere cut of the last branch would keep what it held alive.
func removed[V any](list []*Tree[V], at int) []*Tree[V] {
	if len(list) == 1 {
		return nil
	}
	rest := make([]*Tree[V], 0, len(list)-1)
	return append(append(rest, list[:at]...), list[at+1:]...)
}
