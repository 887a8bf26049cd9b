package clip

import (
	"slices"

	"paintbox/api"
	"paintbox/fix"
)

// Right says whether a window may be.
func Right(v api.View) bool {
	return reaches(v.X, v.W) && reaches(v.Y, v.H) && depth(v.Near) && depth(v.Far)
}

// reaches says whether a stretch of cells lies within the greatest side. Each number is asked ahead of their sum, which could pass an int.
func reaches(from, n int) bool {
	return side(from) && side(n) && side(from+n)
}

// side says whether n may be a number of cells.
func side(n int) bool {
	return n >= 0 && n <= api.MaxSide
}

// depth says whether z may be a depth.
func depth(z api.Fix) bool {
	return z >= 0 && z <= api.One
}

// Window answers a corner in the window.
func Window(v api.View, p api.Vert) (api.Win, api.Errno) {
	if !Right(v) || !lie(0, p) || !alike(p) {
		return api.Win{}, api.ErrArg
	}
	return lay(v, p), api.OK
}

// lay is Window of what may be handed to it.
func lay(v api.View, p api.Vert) api.Win {
	w := p.Pos[3]
	return api.Win{
		X:    place(v.X, v.W, share(p.Pos[0], w)),
		Y:    place(v.Y, v.H, share(p.Pos[1], w)),
		Z:    fix.Add(v.Near, fix.Mul(fix.Sub(v.Far, v.Near), share(p.Pos[2], w)>>1)),
		W:    w,
		Size: p.Size,
		Vars: slices.Clone(p.Vars),
	}
}

// share answers how far a coordinate over w lies above -One, from 0 to twice One.
func share(a, w api.Fix) api.Fix {
	return fix.Clamp(fix.Div(a, w), -api.One, api.One) + api.One
}

// place answers where a share of n cells behind from ends, in 256 parts of a cell: a share has 17 bits behind the point, of which 8 stay.
func place(from, n int, s api.Fix) int {
	return 256*from + int(s)*n>>9
}

// Area answers twice the area of a triangle, above 0 if its corners go round from right to up, below 0 if the other way round.
func Area(t [3]api.Win) int {
	a, b, c := t[0], t[1], t[2]
	return (b.X-a.X)*(c.Y-a.Y) - (c.X-a.X)*(b.Y-a.Y)
}
