package tri_test

import (
	"math"
	"testing"

	"paintbox/api"
	"paintbox/tri"
)

// chance tells numbers that are the same each time.
type chance int64

func (c *chance) below(n int) int {
	*c = *c*6364136223846793005 + 1442695040888963407
	return int(uint64(*c)>>33) % n
}

// number tells a number: on small raws, anywhere, or at an end.
func (c *chance) number() api.Fix {
	switch c.below(4) {
	case 0:
		return api.Fix(c.below(9) - 4)
	case 1:
		return api.Fix(c.below(9)-4) * one
	case 2:
		return api.Fix(uint32(c.below(1<<16))<<16 | uint32(c.below(1<<16)))
	}
	return []api.Fix{api.Least, api.Least + 1, -1, 0, 1, one, api.Most - 1, api.Most}[c.below(8)]
}

// w tells a W that may be.
func (c *chance) w() api.Fix {
	switch c.below(4) {
	case 0:
		return api.Fix(c.below(4) + 1)
	case 1:
		return api.Fix(c.below(4)+1) * one
	case 2:
		return api.Fix(c.below(int(api.Most)) + 1)
	}
	return api.Most - api.Fix(c.below(3))
}

// place tells a coordinate of a corner: on a centre, on a cell's edge, anywhere, or at an end.
func (c *chance) place() int {
	switch c.below(4) {
	case 0:
		return 256*c.below(64) + 128
	case 1:
		return 256 * c.below(65)
	case 2:
		return 128 * c.below(16)
	}
	return c.below(16385)
}

// corner tells a corner with n Vars.
func (c *chance) corner(n int) api.Win {
	p := api.Win{X: c.place(), Y: c.place(), Z: c.number(), W: c.w(), Size: c.number()}
	for range n {
		p.Vars = append(p.Vars, api.Vec{c.number(), c.number(), c.number(), c.number()})
	}
	return p
}

// triangle tells three corners that go together.
func (c *chance) triangle() [3]api.Win {
	n := c.below(5)
	return [3]api.Win{c.corner(n), c.corner(n), c.corner(n)}
}

// box tells a box that lies within the planes.
func (c *chance) box() api.Piece {
	p := api.Piece{X: c.below(65), Y: c.below(65)}
	p.W, p.H = c.below(65-p.X), c.below(65-p.Y)
	return p
}

// P22.2, P22.3: chance triangles, cell by cell, are what the chapter's words say.
func TestChanceAt(t *testing.T) {
	var c chance
	count := 0
	for range 60000 {
		w := c.triangle()
		x, y := c.below(66)-1, c.below(66)-1
		if c.below(2) == 0 { // near the corners' middle
			x, y = (w[0].X+w[1].X+w[2].X)/768, (w[0].Y+w[1].Y+w[2].Y)/768
		}
		want, some := model(w[0], w[1], w[2], x, y)
		if tri.Covers(w[0], w[1], w[2], x, y) != some {
			t.Fatal("Covers", w, x, y, some)
		}
		got, e := tri.At(w[0], w[1], w[2], x, y)
		if (e == api.OK) != some || !some && e != api.ErrNone || !tri.Same([]api.Frag{got}, []api.Frag{want}) {
			t.Fatal("At", w, x, y, got, want, e)
		}
		if some {
			count++
		}
	}
	if count < 10000 {
		t.Error(count)
	}
}

// P22.3: chance triangles in chance boxes.
func TestChanceFill(t *testing.T) {
	var c chance
	for range 300 {
		w, box := c.triangle(), c.box()
		var want []api.Frag
		for y := box.Y; y < box.Y+box.H; y++ {
			for x := box.X; x < box.X+box.W; x++ {
				if f, some := model(w[0], w[1], w[2], x, y); some {
					want = append(want, f)
				}
			}
		}
		if got, e := tri.Fill(w[0], w[1], w[2], box); e != api.OK || !tri.Same(got, want) {
			t.Fatal(w, box, len(got), len(want), e)
		}
	}
}

// P22.4: what is covered does not hang on which corner is the first, nor on which side is seen; all that a fragment says lies between what the corners say.
func TestChanceBetween(t *testing.T) {
	var c chance
	for range 1000 {
		w, box := c.triangle(), api.Piece{X: c.below(56), Y: c.below(56), W: 8, H: 8}
		first, _ := tri.Fill(w[0], w[1], w[2], box)
		for _, o := range ways(w[0], w[1], w[2]) {
			l, _ := tri.Fill(o[0], o[1], o[2], box)
			for i := range l {
				if front := tri.Area(o[0], o[1], o[2]) > 0; l[i].Front != front {
					t.Fatal(w, i, l[i])
				}
				l[i].Front = tri.Area(w[0], w[1], w[2]) > 0
			}
			if !tri.Same(first, l) {
				t.Fatal(w, o, box)
			}
		}
		for _, f := range first {
			between(t, f.Z, w[0].Z, w[1].Z, w[2].Z)
			for k, v := range f.Vars {
				for i := range v {
					between(t, v[i], w[0].Vars[k][i], w[1].Vars[k][i], w[2].Vars[k][i])
				}
			}
		}
	}
}

// between asks that a number lies between the least and the greatest of three.
func between(t *testing.T, x, a, b, c api.Fix) {
	t.Helper()
	if x < min(a, b, c) || x > max(a, b, c) {
		t.Fatal(x, a, b, c)
	}
}

// P22.4: with one W for all corners a Var is told as Z is.
func TestChanceOneW(t *testing.T) {
	var c chance
	for range 2000 {
		w, one := c.triangle(), c.w()
		for i := range w {
			w[i].W, w[i].Vars = one, []api.Vec{{w[i].Z, 0, 0, w[i].Z}}
		}
		l, e := tri.Fill(w[0], w[1], w[2], c.box())
		if e != api.OK {
			t.Fatal(e)
		}
		for _, f := range l {
			if f.Vars[0] != (api.Vec{f.Z, 0, 0, f.Z}) {
				t.Fatal(w, f)
			}
		}
	}
}

// P22.4: of two triangles on unlike sides of a common side no cell is covered by both, and each centre on that side, within its ends, by one of them.
func TestChanceBeside(t *testing.T) {
	var c chance
	var pairs, on int
	for range 60000 {
		p, q := at(c.place(), c.place()), at(c.place(), c.place())
		if c.below(2) == 0 { // a side with a centre midway
			x, y := c.below(64), c.below(64)
			dx, dy := c.below(min(256*x+128, 16384-256*x-128)+1), c.below(min(256*y+128, 16384-256*y-128)+1)
			p, q = at(256*x+128-dx, 256*y+128-dy), at(256*x+128+dx, 256*y+128+dy)
			if c.below(2) == 0 {
				p.Y, q.Y = q.Y, p.Y
			}
		}
		r, s := at(c.place(), c.place()), at(c.place(), c.place())
		m, n := tri.Area(p, q, r), tri.Area(p, q, s)
		if m == 0 || n == 0 || (m > 0) == (n > 0) {
			continue
		}
		pairs++
		x, y := (p.X+q.X)/512, (p.Y+q.Y)/512
		for k := range 9 {
			x, y := x+k%3-1, y+k/3-1
			first, second := tri.Covers(p, q, r, x, y), tri.Covers(q, p, s, x, y)
			u, v := 256*x+128, 256*y+128
			if first && second {
				t.Fatal("both", p, q, r, s, x, y)
			}
			if tri.Area(p, q, at(max(u, 0), max(v, 0))) == 0 && cell(x, y) && inner(p.X, u, q.X) && inner(p.Y, v, q.Y) && (u != p.X || v != p.Y) && (u != q.X || v != q.Y) {
				on++
				if first == second {
					t.Fatal("none", p, q, r, s, x, y)
				}
			}
		}
	}
	if pairs < 10000 || on < 5000 {
		t.Error(pairs, on)
	}
}

// cell says whether there is a cell (x, y).
func cell(x, y int) bool { return x >= 0 && x < 64 && y >= 0 && y < 64 }

// inner says whether u lies from one end to the other one.
func inner(p, u, q int) bool { return min(p, q) <= u && u <= max(p, q) }

// P22.4: a cell that is covered has its centre within the triangle, and one whose centre lies within, not on a side, is covered.
func TestChanceWithin(t *testing.T) {
	var c chance
	for range 60000 {
		w := c.triangle()
		x, y := c.below(64), c.below(64)
		if c.below(2) == 0 {
			x, y = min(w[0].X/256, 63), min(w[0].Y/256, 63)
		}
		p := at(256*x+128, 256*y+128)
		var left, right int
		for i := range w {
			a, b := w[i], w[(i+1)%3]
			a.Vars, b.Vars = nil, nil
			switch n := tri.Area(a, b, p); {
			case n > 0:
				left++
			case n < 0:
				right++
			}
		}
		got := tri.Covers(w[0], w[1], w[2], x, y)
		if got && left > 0 && right > 0 || !got && (left == 3 || right == 3) {
			t.Fatal(w, x, y, got)
		}
	}
}

// R1: no call panics, whatever it is handed.
func TestAnything(t *testing.T) {
	var c chance
	any := func() int {
		return []int{math.MinInt, math.MinInt + 1, -1, 0, 1, 63, 64, 16384, 16385, math.MaxInt - 1, math.MaxInt}[c.below(11)]
	}
	for range 20000 {
		var w [3]api.Win
		for i := range w {
			w[i] = c.corner(c.below(7))
			if c.below(3) == 0 {
				w[i].X, w[i].Y, w[i].W = any(), any(), c.number()
			}
		}
		x, y, box := any(), any(), api.Piece{X: any(), Y: any(), W: any(), H: any()}
		e := tri.Check(w[0], w[1], w[2])
		if (e == api.OK) != may(w[0], w[1], w[2]) {
			t.Fatal(w, e)
		}
		tri.Area(w[0], w[1], w[2])
		tri.Covers(w[0], w[1], w[2], x, y)
		if f, wrong := tri.At(w[0], w[1], w[2], x, y); e != api.OK && wrong != e || wrong != api.OK && !tri.Same([]api.Frag{f}, []api.Frag{{}}) {
			t.Fatal(w, x, y, f, wrong)
		}
		if l, wrong := tri.Fill(w[0], w[1], w[2], box); e != api.OK && wrong != e || wrong != api.OK && len(l) != 0 {
			t.Fatal(w, box, wrong)
		}
	}
}
