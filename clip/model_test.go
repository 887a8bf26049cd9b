package clip_test

import "paintbox/api"

// The chapter, read a second time, in int64, as plainly as it can be: a corner is a list of numbers, x, y, z, w, Size, and those of its Vars.

// flat answers a corner's numbers.
func flat(p api.Vert) []int64 {
	l := []int64{int64(p.Pos[0]), int64(p.Pos[1]), int64(p.Pos[2]), int64(p.Pos[3]), int64(p.Size)}
	for _, v := range p.Vars {
		for _, x := range v {
			l = append(l, int64(x))
		}
	}
	return l
}

// round answers the corner of these numbers.
func round(l []int64) api.Vert {
	p := api.Vert{Pos: api.Vec{api.Fix(l[0]), api.Fix(l[1]), api.Fix(l[2]), api.Fix(l[3])}, Size: api.Fix(l[4])}
	for k := 5; k < len(l); k += 4 {
		p.Vars = append(p.Vars, api.Vec{api.Fix(l[k]), api.Fix(l[k+1]), api.Fix(l[k+2]), api.Fix(l[k+3])})
	}
	return p
}

// held answers n, saturated.
func held(n int64) int64 {
	if n > 1<<31-1 {
		return 1<<31 - 1
	}
	if n < -1<<31 {
		return -1 << 31
	}
	return n
}

// over answers the raw of a over b, for b above 0: of both that are as near the one that is farther from 0.
func over(a, b int64) int64 {
	if a < 0 {
		return -over(-a, b)
	}
	return held((2*65536*a + b) / (2 * b))
}

// times answers the raw of a times b: the greatest whole number not above (a b + 2^15) / 2^16.
func times(a, b int64) int64 {
	n := a*b + 32768
	q := n / 65536
	if n%65536 < 0 {
		q--
	}
	return held(q)
}

// off answers distance n.
func off(p []int64, n int) int64 {
	if n == 0 {
		return held(p[3] - 1)
	}
	x := p[(n-1)/2]
	if n%2 == 0 {
		x = -x
	}
	return held(p[3] + x)
}

// cutAt answers the corner between p, which lies within, and q.
func cutAt(p, q []int64, n int) []int64 {
	d, e := off(p, n), off(q, n)
	t := over(d, held(d-e))
	var c []int64
	for i := range p {
		c = append(c, held(p[i]+times(held(q[i]-p[i]), t)))
	}
	return c
}

// cutRound answers a row, cut by distance n.
func cutRound(l [][]int64, n int) [][]int64 {
	var out [][]int64
	for k := range l {
		p, q := l[(k+len(l)-1)%len(l)], l[k]
		switch in, to := off(p, n) >= 0, off(q, n) >= 0; {
		case in && to:
			out = append(out, q)
		case in:
			out = append(out, cutAt(p, q, n))
		case to:
			out = append(out, cutAt(q, p, n), q)
		}
	}
	return out
}

// inWindow answers a corner in the window; its w is above 0.
func inWindow(v api.View, l []int64) api.Win {
	p := round(l)
	part := func(a int64) int64 { return min(65536, max(-65536, over(a, l[3]))) + 65536 }
	return api.Win{
		X:    int(256*int64(v.X) + part(l[0])*int64(v.W)/512),
		Y:    int(256*int64(v.Y) + part(l[1])*int64(v.H)/512),
		Z:    api.Fix(held(int64(v.Near) + times(int64(v.Far)-int64(v.Near), part(l[2])/2))),
		W:    p.Pos[3],
		Size: p.Size,
		Vars: p.Vars,
	}
}

// windowMay says whether a window may be.
func windowMay(v api.View) bool {
	for _, n := range []int{v.X, v.Y, v.W, v.H} {
		if n < 0 || n > 64 {
			return false
		}
	}
	return v.X+v.W <= 64 && v.Y+v.H <= 64 && min(v.Near, v.Far) >= 0 && max(v.Near, v.Far) <= 65536
}

// cornersMay says whether corners may go together.
func cornersMay(l []api.Vert) bool {
	for k := range l {
		if len(l[k].Vars) > 4 || len(l[k].Vars) != len(l[0].Vars) {
			return false
		}
	}
	return true
}

// cut answers what Cut is to answer.
func cut(l []api.Vert, n int) ([]api.Vert, api.Errno) {
	if n < 0 || n > 6 || len(l) > 16 || !cornersMay(l) {
		return nil, api.ErrArg
	}
	var row [][]int64
	for _, p := range l {
		row = append(row, flat(p))
	}
	var out []api.Vert
	for _, p := range cutRound(row, n) {
		out = append(out, round(p))
	}
	return out, api.OK
}

// window answers what Window is to answer.
func window(v api.View, p api.Vert) (api.Win, api.Errno) {
	if !windowMay(v) || p.Pos[3] < 1 || !cornersMay([]api.Vert{p}) {
		return api.Win{}, api.ErrArg
	}
	return inWindow(v, flat(p)), api.OK
}

// triangle answers what Triangle is to answer.
func triangle(v api.View, a, b, c api.Vert) ([][3]api.Win, api.Errno) {
	if !windowMay(v) || !cornersMay([]api.Vert{a, b, c}) {
		return nil, api.ErrArg
	}
	row := [][]int64{flat(a), flat(b), flat(c)}
	for n := 0; n < 7; n++ {
		row = cutRound(row, n)
	}
	for _, p := range row {
		if p[3] < 1 {
			return nil, api.OK
		}
	}
	var out [][3]api.Win
	for k := 2; k < len(row); k++ {
		out = append(out, [3]api.Win{inWindow(v, row[0]), inWindow(v, row[k-1]), inWindow(v, row[k])})
	}
	return out, api.OK
}

// line answers what Line is to answer.
func line(v api.View, a, b api.Vert) ([]api.Win, api.Errno) {
	if !windowMay(v) || !cornersMay([]api.Vert{a, b}) {
		return nil, api.ErrArg
	}
	p, q := flat(a), flat(b)
	for n := 0; n < 7; n++ {
		in, to := off(p, n) >= 0, off(q, n) >= 0
		if !in && !to {
			return nil, api.OK
		}
		if !in {
			p = cutAt(q, p, n)
		} else if !to {
			q = cutAt(p, q, n)
		}
	}
	if min(p[3], q[3]) < 1 {
		return nil, api.OK
	}
	return []api.Win{inWindow(v, p), inWindow(v, q)}, api.OK
}

// point answers what Point is to answer.
func point(v api.View, a api.Vert) ([]api.Win, api.Errno) {
	if !windowMay(v) || !cornersMay([]api.Vert{a}) {
		return nil, api.ErrArg
	}
	for n := 0; n < 7; n++ {
		if off(flat(a), n) < 0 {
			return nil, api.OK
		}
	}
	return []api.Win{inWindow(v, flat(a))}, api.OK
}
