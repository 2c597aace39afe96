package tree

import "trellis/api"

// Shape tells how many leaves and nodes of each kind there are, and how high the tree is.
func (t *Tree[V]) Shape() api.Shape {
	var s api.Shape
	s.Height = t.tally(&s)
	return s
}

// tally counts what is in the tree, and answers its height.
func (t *Tree[V]) tally(s *api.Shape) int {
	if t == nil {
		return 0
	}
	if len(t.branches) == 0 {
		s.Leaves++
		return 1
	}
	highest := 0
	for _, b := range t.branches {
		highest = max(highest, b.tally(s))
	}
	countNode(s, len(t.branches))
	return highest + 1
}

func countNode(s *api.Shape, branches int) {
	switch {
	case branches <= 4:
		s.Nodes4++
	case branches <= 16:
		s.Nodes16++
	case branches <= 48:
		s.Nodes48++
	default:
		s.Nodes256++
	}
}
