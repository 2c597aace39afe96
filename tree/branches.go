package tree

import "cmp"

// Other trees hold these lists too. The third index leaves append no room in them, so it puts what comes behind the cut into new memory.

func inserted[V any](list []*Tree[V], at int, b *Tree[V]) []*Tree[V] {
	return append(append(list[:at:at], b), list[at:]...)
}

func replaced[V any](list []*Tree[V], at int, b *Tree[V]) []*Tree[V] {
	return append(append(list[:at:at], b), list[at+1:]...)
}

// removed copies the beginning as well: a mere cut of the last branch would keep what it held alive.
func removed[V any](list []*Tree[V], at int) []*Tree[V] {
	if len(list) == 1 {
		return nil
	}
	rest := make([]*Tree[V], 0, len(list)-1)
	return append(append(rest, list[:at]...), list[at+1:]...)
}

// merged makes one list of two whose branches part at the byte behind a prefix of so many bytes.
func merged[V any](list []*Tree[V], over []*Tree[V], behind int) []*Tree[V] {
	if len(list) == 0 {
		return over
	}
	if len(over) == 0 {
		return list
	}
	both := make([]*Tree[V], 0, len(list)+len(over))
	for len(list) > 0 && len(over) > 0 {
		switch c := cmp.Compare(list[0].prefix[behind], over[0].prefix[behind]); {
		case c < 0:
			both, list = append(both, list[0]), list[1:]
		case c > 0:
			both, over = append(both, over[0]), over[1:]
		default:
			both = append(both, list[0].Union(over[0]))
			list, over = list[1:], over[1:]
		}
	}
	return append(append(both, list...), over...)
}
