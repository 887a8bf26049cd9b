package tri

import (
	"paintbox/api"
	"paintbox/fix"
)

// turned is a triangle whose corners go together, and go round so that its area is above 0, if it has any.
type turned struct {
	corners [3]api.Win
	sides   [3]side // the i-th one lies across from the i-th corner
	front   bool    // whether the corners went round so when they were handed in
}

// side tells how far to the left of a side the centre (u, v) lies, times the side's length, and whether the side lets a cell be covered whose centre that is.
type side func(u, v int) (int, bool)

// turn makes a triangle of corners that go together.
func turn(a, b, c api.Win) turned {
	area := Area(a, b, c)
	t := turned{corners: [3]api.Win{a, b, c}, front: area > 0}
	if area < 0 {
		t.corners[1], t.corners[2] = c, b
	}
	for i := range t.sides {
		t.sides[i] = along(t.corners[(i+1)%3], t.corners[(i+2)%3], area != 0)
	}
	return t
}

// along makes the side from p to q. A centre on it is kept on one of its two ways alone, so that of two triangles beside one another one has it; without an area nothing is.
func along(p, q api.Win, area bool) side {
	keeps := q.Y < p.Y || q.Y == p.Y && q.X < p.X
	return func(u, v int) (int, bool) {
		n := (q.X-p.X)*(v-p.Y) - (q.Y-p.Y)*(u-p.X)
		return n, area && (n > 0 || n == 0 && keeps)
	}
}

// weigh answers how much each corner counts at the centre of a cell, and whether the cell is covered.
func (t turned) weigh(x, y int) ([3]int, bool) {
	var weights [3]int
	for i, s := range t.sides {
		n, inner := s(256*x+128, 256*y+128)
		if !inner {
			return weights, false
		}
		weights[i] = n
	}
	return weights, true
}

// fragment answers what stands at the centre of a cell that is covered.
func (t turned) fragment(x, y int, weights [3]int) api.Frag {
	var z, over [3]api.Fix
	for i, p := range t.corners {
		z[i], over[i] = p.Z, fix.Div(api.One, p.W)
	}
	return api.Frag{
		X: x, Y: y,
		Z:     mean(z, weights),
		InvW:  mean(over, weights),
		Front: t.front,
		Vars:  t.vars(weights),
	}
}

// mean answers what stands between three numbers, each of which counts as its weight says. A weight has at most 29 bits, as all together have, so the sum has room in an int64.
func mean(l [3]api.Fix, weights [3]int) api.Fix {
	var sum, all int64
	for i, n := range l {
		sum += int64(weights[i]) * int64(n)
		all += int64(weights[i])
	}
	if sum < 0 {
		return fix.Raw(-((all - 2*sum) / (2 * all)))
	}
	return fix.Raw((all + 2*sum) / (2 * all))
}
