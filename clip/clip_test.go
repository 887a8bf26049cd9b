package clip_test

import (
	"testing"

	"paintbox/api"
	"paintbox/clip"
)

const one = api.One

// at answers a corner without Vars.
func at(x, y, z, w api.Fix) api.Vert {
	return api.Vert{Pos: api.Vec{x, y, z, w}}
}

// with answers a corner with a size and n Vars.
func with(p api.Vert, size api.Fix, vars ...api.Vec) api.Vert {
	p.Size, p.Vars = size, vars
	return p
}

// P21.1: a window may be up to each of its ends, and not one beyond.
func TestRight(t *testing.T) {
	for _, v := range []api.View{
		{}, {W: 64, H: 64, Far: one}, {X: 64, Y: 64}, {X: 64}, {Y: 64}, {X: 63, W: 1, Y: 1, H: 63},
		{X: 0, W: 64}, {H: 64}, {Near: one}, {Near: one, Far: one}, {Near: one, Far: 0}, {Near: 1, Far: 1}, {Far: one},
	} {
		if !clip.Right(v) {
			t.Error("may be:", v)
		}
	}
	for _, v := range []api.View{
		{X: -1}, {X: -1, W: 64}, {Y: -1}, {W: -1}, {X: 1, W: -1}, {H: -1}, {Y: 1, H: -1},
		{X: 65}, {Y: 65}, {W: 65}, {H: 65}, {X: 1, W: 64}, {Y: 1, H: 64}, {X: 64, W: 1}, {Y: 64, H: 1}, {X: 65, W: -1}, {Y: 65, H: -1},
		{Near: -1}, {Far: -1}, {Near: one + 1}, {Far: one + 1}, {Near: api.Least}, {Far: api.Most},
		{X: 1<<63 - 1, W: 1<<63 - 1}, {X: 1<<63 - 1, W: 1}, {Y: -1 << 63, H: -1 << 63}, {W: 1 << 62}, {H: -1 << 63},
	} {
		if clip.Right(v) {
			t.Error("may not be:", v)
		}
	}
}

// P21.1: each distance, by hand, and what is no distance.
func TestDistance(t *testing.T) {
	p := at(1, 20, 300, 4000)
	for n, want := range []api.Fix{3999, 4001, 3999, 4020, 3980, 4300, 3700} {
		if d, e := clip.Distance(p, n); d != want || e != api.OK {
			t.Error(n, d, want, e)
		}
	}
	for _, n := range []int{-1, 7, 8, -7, 1<<63 - 1, -1 << 63} {
		if d, e := clip.Distance(p, n); d != 0 || e != api.ErrArg {
			t.Error(n, d, e)
		}
	}
}

// P21.1: distances saturate at the ends of what a number can be.
func TestDistanceEnds(t *testing.T) {
	for _, q := range []struct {
		p    api.Vert
		n    int
		want api.Fix
	}{
		{at(0, 0, 0, api.Least), 0, api.Least},
		{at(0, 0, 0, api.Most), 0, api.Most - 1},
		{at(0, 0, 0, 1), 0, 0},
		{at(0, 0, 0, 0), 0, -1},
		{at(api.Most, 0, 0, 1), 1, api.Most},
		{at(api.Least, 0, 0, -1), 1, api.Least},
		{at(api.Least, 0, 0, 0), 2, api.Most},
		{at(api.Most, 0, 0, -2), 2, api.Least},
		{at(0, api.Most, 0, api.Most), 3, api.Most},
		{at(0, api.Least, 0, api.Least), 3, api.Least},
		{at(0, api.Least, 0, api.Most), 4, api.Most},
		{at(0, api.Most, 0, api.Least), 4, api.Least},
		{at(0, 0, api.Most, 1), 5, api.Most},
		{at(0, 0, api.Least, -1), 5, api.Least},
		{at(0, 0, api.Least, 0), 6, api.Most},
		{at(0, 0, api.Most, api.Least), 6, api.Least},
		{at(0, 0, api.Most, api.Most), 6, 0},
	} {
		if d, e := clip.Distance(q.p, q.n); d != q.want || e != api.OK {
			t.Error(q, d, e)
		}
	}
	many := with(at(0, 0, 0, 5), 0, make([]api.Vec, 9)...)
	if d, e := clip.Distance(many, 0); d != 4 || e != api.OK {
		t.Error("a distance does not ask for Vars:", d, e)
	}
}

// wantFan asks for the places of triangles.
func wantFan(t *testing.T, fan [][3]api.Win, e api.Errno, want ...[3][2]int) {
	t.Helper()
	if e != api.OK || len(fan) != len(want) {
		t.Fatal(fan, e, want)
	}
	for k := range want {
		for i, c := range want[k] {
			if fan[k][i].X != c[0] || fan[k][i].Y != c[1] {
				t.Error(k, i, fan[k][i], c)
			}
		}
	}
}

// view is the window of the chapter's examples.
func view() api.View {
	return api.View{W: 4, H: 4, Far: one}
}

// P21.3, P21.4: a triangle within is one triangle, of its corners in order, with all that they carry.
func TestTriangleWithin(t *testing.T) {
	a := with(at(-one, -one, -one, one), 1, api.Vec{1, 2, 3, 4})
	b := with(at(2*one, -2*one, 0, 2*one), 2, api.Vec{5, 6, 7, 8})
	c := with(at(-one, one, one, one), 3, api.Vec{9, 10, 11, 12})
	fan, e := clip.Triangle(view(), a, b, c)
	wantFan(t, fan, e, [3][2]int{{0, 0}, {1024, 0}, {0, 1024}})
	want := [3]api.Win{
		{Z: 0, W: one, Size: 1, Vars: []api.Vec{{1, 2, 3, 4}}},
		{X: 1024, Z: one / 2, W: 2 * one, Size: 2, Vars: []api.Vec{{5, 6, 7, 8}}},
		{Y: 1024, Z: one, W: one, Size: 3, Vars: []api.Vec{{9, 10, 11, 12}}},
	}
	if !as(fan[0], want) {
		t.Error(fan[0])
	}
}

// P21.3: triangles that one distance cuts, by hand: one corner without (two triangles), two without (one).
func TestTriangleCutOnce(t *testing.T) {
	fan, e := clip.Triangle(view(), at(0, 0, 0, one), at(2*one, 0, 0, one), at(0, one, 0, one))
	wantFan(t, fan, e, [3][2]int{{512, 512}, {1024, 512}, {1024, 768}}, [3][2]int{{512, 512}, {1024, 768}, {512, 1024}})
	fan, e = clip.Triangle(view(), at(0, 0, 0, one), at(2*one, 0, 0, one), at(2*one, one, 0, one))
	wantFan(t, fan, e, [3][2]int{{1024, 768}, {512, 512}, {1024, 512}})
	fan, e = clip.Triangle(view(), at(0, 0, 0, one), at(one, 0, 2*one, one), at(0, one, 0, one))
	wantFan(t, fan, e, [3][2]int{{512, 512}, {768, 512}, {768, 768}}, [3][2]int{{512, 512}, {768, 768}, {512, 1024}})
	for _, f := range fan {
		if f[1].Z != one {
			t.Error(f)
		}
	}
	fan, e = clip.Triangle(view(), at(0, 0, 0, one), at(one, 0, -2*one, one), at(0, one, 0, one))
	wantFan(t, fan, e, [3][2]int{{512, 512}, {768, 512}, {768, 768}}, [3][2]int{{512, 512}, {768, 768}, {512, 1024}})
	if fan[0][1].Z != 0 {
		t.Error(fan[0])
	}
}

// P21.3: a triangle about the whole view, cut by several distances, is the view.
func TestTriangleCutOften(t *testing.T) {
	fan, e := clip.Triangle(view(), at(-one, -one, 0, one), at(3*one, -one, 0, one), at(-one, 3*one, 0, one))
	wantFan(t, fan, e, [3][2]int{{0, 1024}, {0, 0}, {1024, 0}}, [3][2]int{{0, 1024}, {1024, 0}, {1024, 1024}}, [3][2]int{{0, 1024}, {1024, 1024}, {1024, 1024}})
	fan, e = clip.Triangle(view(), at(-5*one, -one, 0, one), at(5*one, -one, 0, one), at(0, 4*one, 0, one))
	total := 0
	for _, f := range fan {
		total += clip.Area(f)
	}
	if e != api.OK || total != 2*1024*1024 {
		t.Error(fan, e, total)
	}
	// All six sides of the view cut this one: of its nine corners there are seven triangles.
	fan, e = clip.Triangle(view(), at(-2*one, 7*one/4, -13*one/8, one), at(3*one/2, -13*one/8, -one/8, one), at(0, 5*one/8, 9*one/8, one))
	if e != api.OK || len(fan) != 7 {
		t.Error(len(fan), e)
	}
	// What is rounded may be cut by one distance more than once.
	fan, e = clip.Triangle(view(), at(-246939, -231170, 224664, -46776), at(4, 4, -3, 2), at(411453444, 724502590, 1172042708, 2046780527))
	if e != api.OK || len(fan) != 8 {
		t.Error(len(fan), e)
	}
}

// P21.3: of what lies without there is nothing, by each distance.
func TestTriangleWithout(t *testing.T) {
	for _, p := range []api.Vert{
		at(0, 0, 0, 0), at(0, 0, 0, -one), at(-2*one, 0, 0, one), at(2*one, 0, 0, one), at(0, -2*one, 0, one),
		at(0, 2*one, 0, one), at(0, 0, -2*one, one), at(0, 0, 2*one, one), at(one, one, one, -2*one), at(api.Least, 0, 0, 1),
	} {
		if fan, e := clip.Triangle(view(), p, p, p); e != api.OK || len(fan) != 0 {
			t.Error(p, fan, e)
		}
		if l, e := clip.Line(view(), p, p); e != api.OK || len(l) != 0 {
			t.Error(p, l, e)
		}
		if l, e := clip.Point(view(), p); e != api.OK || len(l) != 0 {
			t.Error(p, l, e)
		}
	}
}

// P21.3: a corner behind the eye is cut off where its side passes it.
func TestTriangleBehind(t *testing.T) {
	fan, e := clip.Triangle(view(), at(0, 0, 0, one), at(0, one, 0, one), at(one/2, 0, 0, -one))
	if e != api.OK || len(fan) != 3 {
		t.Fatal(fan, e)
	}
	for _, f := range fan {
		inside(t, view(), f[:]...)
	}
	if fan, e = clip.Triangle(view(), at(0, 0, 0, one), at(0, 0, 0, -2*one), at(0, 0, 0, -2*one)); e != api.OK || len(fan) != 1 || fan[0][0].W != 1 {
		t.Error(fan, e)
	}
}

// P21.3: lines within, cut at one end, at the other, at both, and those that pass by.
func TestLine(t *testing.T) {
	for _, q := range []struct {
		a, b api.Vert
		want [2][2]int
	}{
		{at(0, 0, 0, one), at(one, -one, 0, one), [2][2]int{{512, 512}, {1024, 0}}},
		{at(0, 0, 0, one), at(2*one, 0, 0, one), [2][2]int{{512, 512}, {1024, 512}}},
		{at(2*one, 0, 0, one), at(0, 0, 0, one), [2][2]int{{1024, 512}, {512, 512}}},
		{at(-one, 0, 0, one), at(3*one, 0, 0, one), [2][2]int{{0, 512}, {1024, 512}}},
		// Cut by the left side first, at two thirds rounded up; half of what is left is rounded to a place just short of the right one.
		{at(-3*one, 0, 0, one), at(3*one, 0, 0, one), [2][2]int{{0, 512}, {1023, 512}}},
		{at(3*one, 0, 0, one), at(-3*one, 0, 0, one), [2][2]int{{1023, 512}, {0, 512}}},
		{at(0, 3*one, 0, one), at(0, -3*one, 0, one), [2][2]int{{512, 1023}, {512, 0}}},
		{at(-3*one, -3*one, 0, one), at(3*one, 3*one, 0, one), [2][2]int{{0, 0}, {1023, 1023}}},
		{at(-one, 0, -3*one, one), at(one, 0, one, one), [2][2]int{{512, 512}, {1024, 512}}},
		{at(one, 0, one, one), at(-one, 0, 3*one, one), [2][2]int{{1024, 512}, {1024, 512}}},
		{at(0, 0, 0, one), at(0, 0, 0, one), [2][2]int{{512, 512}, {512, 512}}},
	} {
		l, e := clip.Line(view(), q.a, q.b)
		if e != api.OK || len(l) != 2 {
			t.Fatal(q, l, e)
		}
		for i, c := range q.want {
			if l[i].X != c[0] || l[i].Y != c[1] {
				t.Error(q, i, l[i])
			}
		}
	}
	if l, e := clip.Line(view(), at(0, 2*one, 0, one), at(2*one, 0, 0, one)); e != api.OK || len(l) != 2 || l[0].X != 1024 || l[1].Y != 1024 {
		t.Error("through a corner of the view:", l, e)
	}
	if l, e := clip.Line(view(), at(0, 3*one, 0, one), at(3*one, 0, 0, one)); e != api.OK || len(l) != 0 {
		t.Error("past a corner of the view:", l, e)
	}
}

// P21.3: what a line's ends carry is cut with them.
func TestLineVars(t *testing.T) {
	a := with(at(0, 0, 0, one), 10, api.Vec{0, 4, 8, 100}, api.Vec{1, 1, 1, 1})
	b := with(at(2*one, 0, one, one), 20, api.Vec{10, 0, 9, -100}, api.Vec{3, 3, 3, 3})
	l, e := clip.Line(view(), a, b)
	want := []api.Win{
		{X: 512, Y: 512, Z: one / 2, W: one, Size: 10, Vars: []api.Vec{{0, 4, 8, 100}, {1, 1, 1, 1}}},
		{X: 1024, Y: 512, Z: one * 3 / 4, W: one, Size: 15, Vars: []api.Vec{{5, 2, 9, 0}, {2, 2, 2, 2}}},
	}
	if e != api.OK || !as(l, want) {
		t.Error(l, e)
	}
}

// P21.3: what is cut just half way to a w of -One is rounded to a w of 0, and so is nothing.
func TestRoundedAway(t *testing.T) {
	in, out := at(0, 0, 0, one), at(0, 0, 0, -one)
	if row, e := clip.Cut([]api.Vert{in, out}, 0); e != api.OK || len(row) != 3 || row[0].Pos[3] != 0 {
		t.Error(row, e)
	}
	for _, l := range [][3]api.Vert{{in, out, out}, {out, in, out}, {out, out, in}, {in, in, out}, {in, out, at(0, 0, 0, -2*one)}} {
		if fan, e := clip.Triangle(view(), l[0], l[1], l[2]); e != api.OK || len(fan) != 0 {
			t.Error(l, fan, e)
		}
	}
	for _, l := range [][2]api.Vert{{in, out}, {out, in}} {
		if w, e := clip.Line(view(), l[0], l[1]); e != api.OK || len(w) != 0 {
			t.Error(l, w, e)
		}
	}
}

// P21.3: a point is there if it lies within, on the planes too.
func TestPoint(t *testing.T) {
	for _, p := range []api.Vert{at(0, 0, 0, 1), at(one, one, one, one), at(-one, -one, -one, one), at(one, -one, 0, one), at(0, 0, -one, one)} {
		l, e := clip.Point(view(), p)
		w, _ := clip.Window(view(), p)
		if e != api.OK || len(l) != 1 || !as(l[0], w) {
			t.Error(p, l, e)
		}
	}
	for _, p := range []api.Vert{
		at(0, 0, 0, 0), at(0, 0, 0, -1), at(one+1, 0, 0, one), at(-one-1, 0, 0, one), at(0, one+1, 0, one),
		at(0, -one-1, 0, one), at(0, 0, one+1, one), at(0, 0, -one-1, one),
	} {
		if l, e := clip.Point(view(), p); e != api.OK || len(l) != 0 {
			t.Error(p, l, e)
		}
	}
	p := with(at(0, 0, 0, one), 7, api.Vec{1}, api.Vec{2}, api.Vec{3}, api.Vec{4})
	if l, e := clip.Point(view(), p); e != api.OK || len(l) != 1 || l[0].Size != 7 || !as(l[0].Vars, p.Vars) {
		t.Error(l, e)
	}
}

// P21.3: a window that may not be, and corners that may not go together, wherever they lie.
func TestShapesWrong(t *testing.T) {
	p, far := at(0, 0, 0, one), at(9*one, 0, 0, -one)
	two := with(p, 0, api.Vec{}, api.Vec{})
	four, five := with(p, 0, make([]api.Vec, 4)...), with(far, 0, make([]api.Vec, 5)...)
	bad := api.View{W: 65}
	for _, q := range []struct {
		v api.View
		l [3]api.Vert
	}{
		{bad, [3]api.Vert{p, p, p}}, {bad, [3]api.Vert{far, far, far}}, {view(), [3]api.Vert{five, five, five}},
		{api.View{Near: -1}, [3]api.Vert{p, p, p}},
	} {
		if fan, e := clip.Triangle(q.v, q.l[0], q.l[1], q.l[2]); e != api.ErrArg || fan != nil {
			t.Error(q, fan, e)
		}
		if l, e := clip.Line(q.v, q.l[0], q.l[1]); e != api.ErrArg || l != nil {
			t.Error(q, l, e)
		}
		if l, e := clip.Point(q.v, q.l[0]); e != api.ErrArg || l != nil {
			t.Error(q, l, e)
		}
	}
	for _, l := range [][3]api.Vert{{two, p, p}, {p, two, p}, {p, p, two}, {far, far, two}, {four, four, five}, {five, four, four}, {four, two, four}} {
		if fan, e := clip.Triangle(view(), l[0], l[1], l[2]); e != api.ErrArg || fan != nil {
			t.Error(l, fan, e)
		}
	}
	for _, l := range [][2]api.Vert{{two, p}, {p, two}, {far, two}, {four, five}, {five, four}} {
		if w, e := clip.Line(view(), l[0], l[1]); e != api.ErrArg || w != nil {
			t.Error(l, w, e)
		}
	}
	if fan, e := clip.Triangle(view(), four, four, four); e != api.OK || len(fan) != 1 || len(fan[0][2].Vars) != 4 {
		t.Error(fan, e)
	}
}
