package tri_test

import (
	"math/big"

	"paintbox/api"
)

// The chapter's words another way: all numbers are as great as they come to be, and each product and quotient stands as the chapter writes it.

// n is a whole number, however great.
func n(i int) *big.Int { return big.NewInt(int64(i)) }

// times answers a product.
func times(l ...*big.Int) *big.Int {
	p := n(1)
	for _, x := range l {
		p = new(big.Int).Mul(p, x)
	}
	return p
}

// sum answers a sum.
func sum(l ...*big.Int) *big.Int {
	s := n(0)
	for _, x := range l {
		s = new(big.Int).Add(s, x)
	}
	return s
}

// nearest answers the nearest number to a quotient, below being above 0.
func nearest(above, below *big.Int) api.Fix {
	down := new(big.Int).Div(above, below)
	rest := new(big.Int).Sub(above, times(down, below))
	up := sum(down, n(1))
	switch c := times(n(2), rest).Cmp(below); {
	case c < 0 || c == 0 && above.Sign() < 0:
		return number(down)
	default:
		return number(up)
	}
}

// number answers the number of a raw.
func number(raw *big.Int) api.Fix {
	if raw.Cmp(n(int(api.Most))) > 0 {
		return api.Most
	}
	if raw.Cmp(n(int(api.Least))) < 0 {
		return api.Least
	}
	return api.Fix(raw.Int64())
}

// may says whether three corners go together.
func may(a, b, c api.Win) bool {
	for _, p := range []api.Win{a, b, c} {
		if p.X < 0 || p.Y < 0 || p.X > 16384 || p.Y > 16384 || p.W < 1 || len(p.Vars) > 4 {
			return false
		}
	}
	return len(a.Vars) == len(b.Vars) && len(b.Vars) == len(c.Vars)
}

// across is the side from p to q, at a centre (u, v).
func across(p, q api.Win, u, v int) int {
	return (q.X-p.X)*(v-p.Y) - (q.Y-p.Y)*(u-p.X)
}

// fair says whether what a side says of a centre lets the cell be covered.
func fair(p, q api.Win, side int) bool {
	if side == 0 {
		return q.Y < p.Y || q.Y == p.Y && q.X < p.X
	}
	return side > 0
}

// model answers the fragment of a cell, and whether it is covered.
func model(a, b, c api.Win, x, y int) (api.Frag, bool) {
	area := (b.X-a.X)*(c.Y-a.Y) - (c.X-a.X)*(b.Y-a.Y)
	if area == 0 || x < 0 || y < 0 || x > 63 || y > 63 {
		return api.Frag{}, false
	}
	if area < 0 {
		b, c = c, b
	}
	u, v := 256*x+128, 256*y+128
	s1, s2, s3 := across(b, c, u, v), across(c, a, u, v), across(a, b, u, v)
	if !fair(b, c, s1) || !fair(c, a, s2) || !fair(a, b, s3) {
		return api.Frag{}, false
	}
	f := api.Frag{X: x, Y: y, Front: area > 0}
	ab, bb, cb := n(s1), n(s2), n(s3)
	raw := func(x api.Fix) *big.Int { return n(int(x)) }
	over := func(w api.Fix) *big.Int { return raw(nearest(n(1<<32), raw(w))) }
	f.Z = nearest(sum(times(ab, raw(a.Z)), times(bb, raw(b.Z)), times(cb, raw(c.Z))), sum(ab, bb, cb))
	f.InvW = nearest(sum(times(ab, over(a.W)), times(bb, over(b.W)), times(cb, over(c.W))), sum(ab, bb, cb))
	p, q, r := times(ab, raw(b.W), raw(c.W)), times(bb, raw(a.W), raw(c.W)), times(cb, raw(a.W), raw(b.W))
	for k := range a.Vars {
		var l api.Vec
		for i := range l {
			l[i] = nearest(sum(times(p, raw(a.Vars[k][i])), times(q, raw(b.Vars[k][i])), times(r, raw(c.Vars[k][i]))), sum(p, q, r))
		}
		f.Vars = append(f.Vars, l)
	}
	return f, true
}
