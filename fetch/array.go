package fetch

import "paintbox/api"

// step answers how far a vertex stands behind the one ahead of it.
func step(a api.Array, size int) int {
	if a.Stride != 0 {
		return a.Stride
	}
	return size
}

// gather answers count vertices of an array that may be, from the one of the number first on; fewer, if one does not stand within the bytes.
func gather(b []byte, a api.Array, first, count int) []api.Vec {
	s, _ := numbersOf(a.Kind)
	size := a.Size * s.width
	var l []api.Vec
vertices:
	for i := range count {
		r := stretch(b, a.Offset+(first+i)*step(a, size), size)
		v := api.Vec{3: api.One}
		for c := range a.Size {
			n := s.next(r)
			if r.Err() != api.OK {
				break vertices
			}
			v[c] = s.number(a.Normalized, n)
		}
		l = append(l, v)
	}
	return l
}
