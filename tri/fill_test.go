package tri_test

import (
	"math"
	"slices"
	"testing"

	"paintbox/api"
	"paintbox/tri"
)

// P22.3: a piece of a triangle: the order of the cells, and what At says of each.
func TestFill(t *testing.T) {
	a, b, c := with(deep(0, 0, 5), 2), with(deep(16384, 0, 9*one), 2), with(deep(0, 16384, -one), 2)
	for i, p := range []*api.Win{&a, &b, &c} {
		p.W, p.Vars[1] = one*api.Fix(i+1), api.Vec{api.Fix(i), one * api.Fix(i), -one * api.Fix(i*i), 7}
	}
	for _, w := range ways(a, b, c) {
		for _, box := range []api.Piece{whole(), {W: 64, H: 1}, {W: 1, H: 64}, {X: 30, Y: 29, W: 8, H: 7}, {X: 63, Y: 63, W: 1, H: 1}, {X: 62, Y: 0, W: 2, H: 2}, {X: 0, Y: 62, W: 2, H: 2}, {X: 3, Y: 5, W: 1, H: 1}} {
			got, e := tri.Fill(w[0], w[1], w[2], box)
			var want []api.Frag
			for y := box.Y; y < box.Y+box.H; y++ {
				for x := box.X; x < box.X+box.W; x++ {
					if f, e := tri.At(w[0], w[1], w[2], x, y); e == api.OK {
						want = append(want, f)
					}
				}
			}
			if e != api.OK || !tri.Same(got, want) {
				t.Error(box, len(got), len(want), e)
			}
		}
	}
}

// P22.3: row by row from below, of a row from left to right.
func TestOrder(t *testing.T) {
	l, e := tri.Fill(at(128, 128), at(896, 896), at(128, 896), whole())
	if want := [][2]int{{0, 1}, {0, 2}, {1, 2}, {0, 3}, {1, 3}, {2, 3}}; e != api.OK || !slices.Equal(cells(l), want) {
		t.Error(cells(l), e)
	}
	l, e = tri.Fill(at(128, 128), at(896, 896), at(128, 896), api.Piece{X: 1, Y: 2, W: 63, H: 2})
	if want := [][2]int{{1, 2}, {1, 3}, {2, 3}}; e != api.OK || !slices.Equal(cells(l), want) {
		t.Error(cells(l), e)
	}
	// In no row but the middle one it covers something, and there not from the box's left on.
	l, e = tri.Fill(at(700, 300), at(3000, 384), at(700, 500), whole())
	if len(l) != 9 || e != api.OK || l[0].X != 3 || l[8].X != 11 || l[4].Y != 1 {
		t.Error(cells(l), e)
	}
}

// P22.3: two triangles paint the whole window once.
func TestFillWhole(t *testing.T) {
	count := map[[2]int]int{}
	for _, w := range [][3]api.Win{{at(0, 0), at(16384, 0), at(0, 16384)}, {at(16384, 0), at(0, 16384), at(16384, 16384)}} {
		l, e := tri.Fill(w[0], w[1], w[2], whole())
		if e != api.OK {
			t.Fatal(e)
		}
		for _, p := range cells(l) {
			count[p]++
		}
	}
	if len(count) != 4096 {
		t.Error(len(count))
	}
	for p, n := range count {
		if n != 1 {
			t.Error(p, n)
		}
	}
}

// P22.3: empty boxes, wherever they lie.
func TestFillEmpty(t *testing.T) {
	for _, box := range []api.Piece{{}, {W: 64}, {H: 64}, {X: 64, Y: 64}, {X: 64, H: 64}, {Y: 64, W: 64}, {X: 5, Y: 5}} {
		if l, e := tri.Fill(at(0, 0), at(16384, 0), at(0, 16384), box); e != api.OK || len(l) != 0 {
			t.Error(box, l, e)
		}
	}
}

// P22.3: boxes that do not lie within, and corners that do not go together, which are told first.
func TestFillWrong(t *testing.T) {
	a, b, c := at(0, 0), at(16384, 0), at(0, 16384)
	boxes := []api.Piece{
		{X: -1, W: 1, H: 1}, {Y: -1, W: 1, H: 1}, {W: -1, H: 1}, {W: 1, H: -1}, {X: 1, W: -1, H: 1}, {Y: 1, W: 1, H: -1},
		{W: 65, H: 1}, {W: 1, H: 65}, {X: 1, W: 64, H: 1}, {Y: 1, W: 1, H: 64}, {X: 64, W: 1, H: 1}, {Y: 64, W: 1, H: 1}, {X: 65}, {Y: 65}, {X: 65, W: -1},
		{X: math.MaxInt, W: 1, H: 1}, {Y: math.MaxInt, W: 1, H: 1}, {X: math.MaxInt, W: math.MaxInt, H: 1}, {Y: math.MaxInt, W: 1, H: math.MaxInt},
		{X: 1, W: math.MaxInt, H: 1}, {Y: 1, W: 1, H: math.MaxInt}, {X: math.MinInt, W: 1, H: 1}, {W: math.MinInt, H: 1}, {X: math.MinInt, W: math.MinInt}, {Y: math.MinInt, H: math.MinInt},
		{X: math.MaxInt, W: math.MinInt}, {Y: math.MaxInt, H: math.MinInt},
	}
	for _, box := range boxes {
		if l, e := tri.Fill(a, b, c, box); e != api.ErrArg || len(l) != 0 {
			t.Error(box, len(l), e)
		}
	}
	for i, q := range append(wrong(), with(at(8000, 8000), 1)) {
		for _, w := range append(ways(q, b, c), ways(a, b, q)...) {
			for _, box := range append(boxes[:2:2], whole(), api.Piece{}) {
				if l, e := tri.Fill(w[0], w[1], w[2], box); e != api.ErrWin || len(l) != 0 {
					t.Error(i, box, len(l), e)
				}
			}
		}
	}
}

// P22.3: Same tells each field, the lists' lengths and their order; nil and empty are one.
func TestSame(t *testing.T) {
	plain := func() api.Frag {
		return api.Frag{X: 1, Y: 2, Z: 3, InvW: 4, Front: true, Point: api.Vec{5, 6, 7, 8}, Vars: []api.Vec{{1, 2, 3, 4}, {5, 6, 7, 8}}}
	}
	changes := []func(f *api.Frag){
		func(f *api.Frag) { f.X++ }, func(f *api.Frag) { f.Y++ }, func(f *api.Frag) { f.Z++ }, func(f *api.Frag) { f.InvW++ }, func(f *api.Frag) { f.Front = false },
		func(f *api.Frag) { f.Point[0]++ }, func(f *api.Frag) { f.Point[3]++ }, func(f *api.Frag) { f.Vars[0][0]++ }, func(f *api.Frag) { f.Vars[1][3]++ },
		func(f *api.Frag) { f.Vars = f.Vars[:1] }, func(f *api.Frag) { f.Vars = nil }, func(f *api.Frag) { f.Vars = append(f.Vars, api.Vec{}) },
	}
	for i, change := range changes {
		f := plain()
		change(&f)
		for _, lists := range [][2][]api.Frag{{{f}, {plain()}}, {{plain(), f}, {plain(), plain()}}, {{f, plain()}, {plain(), plain()}}} {
			if tri.Same(lists[0], lists[1]) || tri.Same(lists[1], lists[0]) || !tri.Same(lists[0], lists[0]) {
				t.Error(i)
			}
		}
	}
	other := plain()
	other.X = 9
	if !tri.Same([]api.Frag{plain(), other}, []api.Frag{plain(), other}) || tri.Same([]api.Frag{plain(), other}, []api.Frag{other, plain()}) {
		t.Error("the order")
	}
	if tri.Same([]api.Frag{plain()}, []api.Frag{plain(), plain()}) || tri.Same([]api.Frag{plain()}, nil) || tri.Same(nil, []api.Frag{{}}) {
		t.Error("the lengths")
	}
	if !tri.Same(nil, nil) || !tri.Same(nil, []api.Frag{}) || !tri.Same([]api.Frag{{}}, []api.Frag{{Vars: []api.Vec{}}}) {
		t.Error("nothing")
	}
}
