package clip_test

import (
	"reflect"
	"testing"

	"paintbox/api"
	"paintbox/clip"
)

// chance tells numbers that are the same each time.
type chance int64

func (c *chance) below(n int) int {
	*c = *c*6364136223846793005 + 1442695040888963407
	return int(uint64(*c)>>33) % n
}

// number tells a number: near the view, on small raws, anywhere, or at an end.
func (c *chance) number(kind int) api.Fix {
	switch kind {
	case 0:
		return api.Fix(c.below(8*int(one))) - 4*one
	case 1:
		return api.Fix(c.below(9) - 4)
	case 2:
		return api.Fix(c.below(9)-4) * one
	case 3:
		return api.Fix(uint32(c.below(1<<16))<<16 | uint32(c.below(1<<16)))
	}
	return []api.Fix{api.Least, api.Least + 1, -1, 0, 1, one, api.Most - 1, api.Most}[c.below(8)]
}

// corner tells a corner with n Vars.
func (c *chance) corner(n int) api.Vert {
	kind := c.below(5)
	var p api.Vert
	for i := range p.Pos {
		p.Pos[i] = c.number(kind)
	}
	if c.below(2) == 0 && p.Pos[3] < 0 && p.Pos[3] > api.Least {
		p.Pos[3] = -p.Pos[3]
	}
	p.Size = c.number(c.below(5))
	for range n {
		p.Vars = append(p.Vars, api.Vec{c.number(c.below(5)), c.number(c.below(5)), c.number(c.below(5)), c.number(c.below(5))})
	}
	return p
}

// view tells a window that may be.
func (c *chance) view() api.View {
	v := api.View{X: c.below(65), Y: c.below(65), Near: api.Fix(c.below(65537)), Far: api.Fix(c.below(65537))}
	v.W, v.H = c.below(65-v.X), c.below(65-v.Y)
	if c.below(8) == 0 {
		v = api.View{W: 64, H: 64, Far: one}
	}
	return v
}

// as says whether what was answered is what is to be, nil and empty lists being one.
func as(got, want any) bool {
	g, w := reflect.ValueOf(got), reflect.ValueOf(want)
	if g.Kind() == reflect.Slice {
		if g.Len() != w.Len() {
			return false
		}
		for i := range g.Len() {
			if !as(g.Index(i).Interface(), w.Index(i).Interface()) {
				return false
			}
		}
		return true
	}
	switch x := got.(type) {
	case api.Vert:
		y := want.(api.Vert)
		return x.Pos == y.Pos && x.Size == y.Size && as(x.Vars, y.Vars)
	case api.Win:
		y := want.(api.Win)
		return x.X == y.X && x.Y == y.Y && x.Z == y.Z && x.W == y.W && x.Size == y.Size && as(x.Vars, y.Vars)
	case [3]api.Win:
		y := want.([3]api.Win)
		return as(x[:], y[:])
	}
	return reflect.DeepEqual(got, want)
}

// P21.1: chance rows, cut by each distance, are what the chapter's words say.
func TestChanceCut(t *testing.T) {
	var c chance
	for range 20000 {
		n, vars := c.below(7), c.below(5)
		var l []api.Vert
		for range c.below(17) {
			l = append(l, c.corner(vars))
		}
		got, e := clip.Cut(l, n)
		if want, wrong := cut(l, n); e != wrong || !as(got, want) {
			t.Fatal(l, n, got, want, e)
		}
	}
}

// P21.1: the distances of chance corners.
func TestChanceDistance(t *testing.T) {
	var c chance
	for range 20000 {
		p, n := c.corner(0), c.below(7)
		if d, e := clip.Distance(p, n); e != api.OK || int64(d) != off(flat(p), n) {
			t.Fatal(p, n, d, e)
		}
	}
}

// P21.2: chance corners in chance windows.
func TestChanceWindow(t *testing.T) {
	var c chance
	for range 40000 {
		v, p := c.view(), c.corner(c.below(6))
		got, e := clip.Window(v, p)
		if want, wrong := window(v, p); e != wrong || !as(got, want) {
			t.Fatal(v, p, got, want, e)
		}
	}
}

// P21.3, P21.4: chance triangles, lines and points are what the chapter's words say; all lies within the window, and there are not too many triangles.
func TestChanceShapes(t *testing.T) {
	var c chance
	most, cuts := 0, map[int]int{}
	for range 60000 {
		v, vars := c.view(), c.below(5)
		p, q, r := c.corner(vars), c.corner(vars), c.corner(vars)
		fan, e := clip.Triangle(v, p, q, r)
		if want, wrong := triangle(v, p, q, r); e != wrong || !as(fan, want) {
			t.Fatal("triangle", v, p, q, r, fan, want, e)
		}
		for _, f := range fan {
			inside(t, v, f[:]...)
		}
		most = max(most, len(fan))
		cuts[len(fan)]++
		ends, e := clip.Line(v, p, q)
		if want, wrong := line(v, p, q); e != wrong || !as(ends, want) {
			t.Fatal("line", v, p, q, ends, want, e)
		}
		inside(t, v, ends...)
		one, e := clip.Point(v, p)
		if want, wrong := point(v, p); e != wrong || !as(one, want) {
			t.Fatal("point", v, p, one, want, e)
		}
		inside(t, v, one...)
	}
	if most > 40 || cuts[0] == 0 || cuts[1] == 0 || cuts[2] == 0 || cuts[5] == 0 {
		t.Error(most, cuts)
	}
}

// P21.4: a triangle with two corners changed about has an area that is less than 0 by as much.
func TestChanceArea(t *testing.T) {
	var c chance
	for range 20000 {
		var f [3]api.Win
		for i := range f {
			f[i].X, f[i].Y = c.below(16385), c.below(16385)
		}
		n := clip.Area(f)
		for _, o := range [][3]api.Win{{f[1], f[0], f[2]}, {f[0], f[2], f[1]}, {f[2], f[1], f[0]}} {
			if clip.Area(o) != -n {
				t.Fatal(f, n, clip.Area(o))
			}
		}
		if clip.Area([3]api.Win{f[1], f[2], f[0]}) != n {
			t.Fatal(f, n)
		}
	}
}

// P21.4: what lies within is not cut.
func TestChanceWithin(t *testing.T) {
	var c chance
	for range 20000 {
		v := c.view()
		var p [3]api.Vert
		for i := range p {
			w := c.below(int(api.Most)) + 1
			p[i].Pos[3] = api.Fix(w)
			for k := range 3 {
				p[i].Pos[k] = api.Fix(c.below(2*w+1) - w)
			}
			p[i].Vars = []api.Vec{{api.Fix(i)}}
		}
		fan, e := clip.Triangle(v, p[0], p[1], p[2])
		if e != api.OK || len(fan) != 1 {
			t.Fatal(p, len(fan), e)
		}
		for i := range p {
			if w, _ := clip.Window(v, p[i]); !as(fan[0][i], w) {
				t.Fatal(p, i, fan[0], w)
			}
		}
	}
}

// inside asks that corners lie within the window, and that their depths do.
func inside(t *testing.T, v api.View, corners ...api.Win) {
	t.Helper()
	for _, w := range corners {
		if w.X < 256*v.X || w.X > 256*(v.X+v.W) || w.Y < 256*v.Y || w.Y > 256*(v.Y+v.H) {
			t.Fatal(v, w)
		}
		if w.Z < min(v.Near, v.Far) || w.Z > max(v.Near, v.Far) || w.W < 1 {
			t.Fatal(v, w)
		}
	}
}
