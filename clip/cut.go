package clip

import (
	"slices"

	"paintbox/api"
	"paintbox/fix"
	"paintbox/vec"
)

// maxRow is how many corners Cut takes at most.
const maxRow = 16

// Cut answers what of a row of corners, round and round, lies within by distance n.
func Cut(l []api.Vert, n int) ([]api.Vert, api.Errno) {
	if n < 0 || n >= distances || len(l) > maxRow || !alike(l...) {
		return nil, api.ErrArg
	}
	return cutRow(l, n), api.OK
}

// cutRow is Cut of a row of whatever length, for that of a triangle may grow beyond what Cut takes.
func cutRow(l []api.Vert, n int) []api.Vert {
	var row []api.Vert
	for i, j := len(l)-1, 0; j < len(l); i, j = j, j+1 {
		p, q := l[i], l[j]
		from, to := lie(n, p), lie(n, q)
		switch {
		case from && !to:
			row = append(row, between(p, q, n))
		case to && !from:
			row = append(row, between(q, p, n), copied(q))
		case to:
			row = append(row, copied(q))
		}
	}
	return row
}

// cutWay answers the ends of what of a way lies within by distance n; false, if nothing does.
func cutWay(a, b api.Vert, n int) (api.Vert, api.Vert, bool) {
	from, to := lie(n, a), lie(n, b)
	switch {
	case from && to:
		return a, b, true
	case from:
		return a, between(a, b, n), true
	case to:
		return between(b, a, n), b, true
	}
	return api.Vert{}, api.Vert{}, false
}

// between answers the corner between p, which lies within by distance n, and q, which does not. It is told from p on, so that a side that two triangles share is cut at one place, whichever way they go along it.
func between(p, q api.Vert, n int) api.Vert {
	d, _ := Distance(p, n)
	e, _ := Distance(q, n)
	t := fix.Div(d, fix.Sub(d, e))
	c := api.Vert{
		Pos:  mix(p.Pos, q.Pos, t),
		Size: mix(api.Vec{p.Size}, api.Vec{q.Size}, t)[0],
	}
	for k := range p.Vars {
		c.Vars = append(c.Vars, mix(p.Vars[k], q.Vars[k], t))
	}
	return c
}

// mix answers what lies between two vectors, t of the way from a to b.
func mix(a, b api.Vec, t api.Fix) api.Vec {
	m, _ := vec.Mix(len(a), a, b, api.Vec{t, t, t, t})
	return m
}

// copied answers a corner whose Vars are in memory of their own.
func copied(p api.Vert) api.Vert {
	p.Vars = slices.Clone(p.Vars)
	return p
}
