package clip_test

import (
	"testing"

	"paintbox/api"
	"paintbox/clip"
)

// P21.2: the chapter's examples, the sides of the view, and beyond them.
func TestWindow(t *testing.T) {
	for _, q := range []struct {
		p    api.Vert
		x, y int
		z    api.Fix
	}{
		{at(0, 0, 0, one), 512, 512, one / 2},
		{at(one, -one, one, one), 1024, 0, one},
		{at(-one, 0, -one, 2*one), 256, 512, one / 4},
		{at(-one, one, -one, one), 0, 1024, 0},
		{at(5*one, -5*one, 5*one, one), 1024, 0, one},
		{at(-5*one, 5*one, -5*one, one), 0, 1024, 0},
		{at(one+1, -one-1, one+1, one), 1024, 0, one},
		{at(one-1, -one+1, one-1, one), 1023, 0, one - 1},
		{at(128-one, 127-one, 1-one, one), 1, 0, 0},
		{at(0, 0, 0, 1), 512, 512, one / 2},
		{at(1, -1, 1, 1), 1024, 0, one},
		{at(api.Most, api.Least, api.Most, 1), 1024, 0, one},
		{at(api.Most, api.Least, 0, api.Most), 1024, 0, one / 2},
		{at(1, 1, 1, 3), 682, 682, 43690},
	} {
		w, e := clip.Window(view(), q.p)
		if e != api.OK || w.X != q.x || w.Y != q.y || w.Z != q.z || w.W != q.p.Pos[3] || w.Size != 0 || len(w.Vars) != 0 {
			t.Error(q, w, e)
		}
	}
}

// P21.2: the least and the greatest window, one that stands elsewhere, and how depths lie.
func TestWindowPlaces(t *testing.T) {
	low, high := at(-one, -one, -one, one), at(one, one, one, one)
	for _, q := range []struct {
		v         api.View
		low, high [3]int
	}{
		{api.View{}, [3]int{0, 0, 0}, [3]int{0, 0, 0}},
		{api.View{X: 64, Y: 64, Near: 5, Far: 5}, [3]int{16384, 16384, 5}, [3]int{16384, 16384, 5}},
		{api.View{W: 64, H: 64, Far: one}, [3]int{0, 0, 0}, [3]int{16384, 16384, 65536}},
		{api.View{X: 3, Y: 5, W: 7, H: 11, Near: 100, Far: 300}, [3]int{768, 1280, 100}, [3]int{2560, 4096, 300}},
		{api.View{X: 1, W: 1, Near: one}, [3]int{256, 0, 65536}, [3]int{512, 0, 0}},
		{api.View{Y: 1, H: 1, Near: one, Far: one}, [3]int{0, 256, 65536}, [3]int{0, 512, 65536}},
	} {
		for i, p := range []api.Vert{low, high} {
			w, e := clip.Window(q.v, p)
			want := [2][3]int{q.low, q.high}[i]
			if got := [3]int{w.X, w.Y, int(w.Z)}; e != api.OK || got != want {
				t.Error(q.v, p, got, want, e)
			}
		}
	}
	v := api.View{X: 2, Y: 9, W: 3, H: 5, Near: 1000, Far: 9}
	if w, e := clip.Window(v, at(one/2, -one/4, 77, one)); e != api.OK || w.X != 512+576 || w.Y != 2304+480 || w.Z != 504 {
		t.Error(w, e)
	}
}

// P21.2: Size, w and Vars are as they were, whatever they are.
func TestWindowCarries(t *testing.T) {
	for n := range 5 {
		p := with(at(0, 0, 0, 7), api.Least)
		for k := range n {
			p.Vars = append(p.Vars, api.Vec{api.Fix(k), api.Most, api.Least, -1})
		}
		w, e := clip.Window(view(), p)
		if e != api.OK || w.W != 7 || w.Size != api.Least || !as(w.Vars, p.Vars) {
			t.Error(n, w, e)
		}
	}
}

// P21.2: a w that is too low, a window that may not be, too many Vars.
func TestWindowWrong(t *testing.T) {
	p := at(0, 0, 0, one)
	for _, q := range []struct {
		v api.View
		p api.Vert
	}{
		{view(), at(0, 0, 0, 0)}, {view(), at(0, 0, 0, -1)}, {view(), at(0, 0, 0, api.Least)}, {view(), at(0, 0, 0, -one)},
		{view(), with(p, 0, make([]api.Vec, 5)...)}, {view(), with(p, 0, make([]api.Vec, 500)...)},
		{api.View{W: 65}, p}, {api.View{X: 1, W: 64}, p}, {api.View{Y: -1}, p}, {api.View{Far: one + 1}, p}, {api.View{W: -1}, at(0, 0, 0, 0)},
	} {
		if w, e := clip.Window(q.v, q.p); e != api.ErrArg || !as(w, api.Win{}) || w.Vars != nil {
			t.Error(q, w, e)
		}
	}
}

// P21.2, P21.4: areas of triangles either way round, and of three corners in a row.
func TestArea(t *testing.T) {
	for _, q := range []struct {
		l    [3][2]int
		want int
	}{
		{[3][2]int{{0, 0}, {1, 0}, {0, 1}}, 1},
		{[3][2]int{{0, 0}, {0, 1}, {1, 0}}, -1},
		{[3][2]int{{10, 20}, {13, 25}, {17, 22}}, 3*2 - 7*5},
		{[3][2]int{{13, 25}, {10, 20}, {17, 22}}, 7*5 - 3*2},
		{[3][2]int{{0, 0}, {256, 256}, {512, 512}}, 0},
		{[3][2]int{{5, 6}, {5, 6}, {5, 6}}, 0},
		{[3][2]int{{5, 6}, {9, 6}, {5, 6}}, 0},
		{[3][2]int{{0, 0}, {16384, 0}, {16384, 16384}}, 1 << 28},
		{[3][2]int{{-4, -4}, {4, -4}, {-4, 4}}, 64},
		{[3][2]int{{0, 0}, {1 << 40, 0}, {0, 1 << 22}}, 1 << 62},
		{[3][2]int{{0, 0}, {1 << 40, 0}, {0, 1 << 24}}, 0},
	} {
		var f [3]api.Win
		for i, c := range q.l {
			f[i] = api.Win{X: c[0], Y: c[1], Z: 9, W: api.Fix(i), Size: 5}
		}
		if n := clip.Area(f); n != q.want {
			t.Error(q, n)
		}
	}
}
