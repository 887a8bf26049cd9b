package fetch

import (
	"iter"

	"paintbox/api"
)

// shape is how the primitives of a mode lie: how many vertices each has, how many primitives there are, and at which places of a list the vertices of primitive k stand.
type shape struct {
	corners, count int
	places         func(k int) [3]int
}

// shapeOf answers the shape of a mode over a list of n vertices; false, if there is no such mode.
func shapeOf(mode, n int) (shape, bool) {
	switch mode {
	case api.Points:
		return shape{1, n, func(k int) [3]int { return [3]int{k} }}, true
	case api.Lines:
		return shape{2, n / 2, func(k int) [3]int { return [3]int{2 * k, 2*k + 1} }}, true
	case api.LineLoop:
		if n < 2 {
			return shape{}, true
		}
		return shape{2, n, func(k int) [3]int { return [3]int{k, (k + 1) % n} }}, true
	case api.LineStrip:
		return shape{2, n - 1, func(k int) [3]int { return [3]int{k, k + 1} }}, true
	case api.Triangles:
		return shape{3, n / 3, func(k int) [3]int { return [3]int{3 * k, 3*k + 1, 3*k + 2} }}, true
	case api.TriangleStrip:
		return shape{3, n - 2, strip}, true
	case api.TriangleFan:
		return shape{3, n - 2, func(k int) [3]int { return [3]int{0, k + 1, k + 2} }}, true
	}
	return shape{}, false
}

// strip turns every other triangle, so that all of a strip have the same way round.
func strip(k int) [3]int {
	if k%2 == 0 {
		return [3]int{k, k + 1, k + 2}
	}
	return [3]int{k + 1, k, k + 2}
}

// all tells the places of each primitive, in order. Of a list that is too short for one the count may be below 0: then there is none.
func (s shape) all() iter.Seq[[3]int] {
	return func(yield func([3]int) bool) {
		for k := 0; k < s.count; k++ {
			if !yield(s.places(k)) {
				return
			}
		}
	}
}
