package tri_test

import (
	"math"
	"slices"
	"testing"

	"paintbox/api"
	"paintbox/tri"
)

const one = api.One

// at is a corner at (x, y), of W One.
func at(x, y int) api.Win { return api.Win{X: x, Y: y, W: one} }

// deep is a corner at (x, y) of a depth.
func deep(x, y int, z api.Fix) api.Win { return api.Win{X: x, Y: y, Z: z, W: one} }

// whole is the box of all cells.
func whole() api.Piece { return api.Piece{W: 64, H: 64} }

// cells answers where fragments are.
func cells(l []api.Frag) [][2]int {
	var c [][2]int
	for _, f := range l {
		c = append(c, [2]int{f.X, f.Y})
	}
	return c
}

// P22.1, P22.2, P22.3: the chapter's examples.
func TestExamples(t *testing.T) {
	a, b, c := deep(0, 0, 0), deep(512, 0, 0), deep(0, 512, one)
	if tri.Area(a, b, c) != 262144 || tri.Area(a, c, b) != -262144 {
		t.Error(tri.Area(a, b, c), tri.Area(a, c, b))
	}
	l, e := tri.Fill(a, b, c, whole())
	if e != api.OK || !tri.Same(l, []api.Frag{{Z: 16384, InvW: one, Front: true}}) {
		t.Error(l, e)
	}
	if tri.Covers(a, b, c, 1, 0) || tri.Covers(a, b, c, 0, 1) || !tri.Covers(at(512, 0), at(512, 512), at(0, 512), 1, 0) {
		t.Error("Covers")
	}
	if f, e := tri.At(a, b, c, 1, 1); e != api.ErrNone || !tri.Same([]api.Frag{f}, []api.Frag{{}}) {
		t.Error(f, e)
	}
	if l, e := tri.Fill(a, b, c, api.Piece{W: 65, H: 1}); e != api.ErrArg || len(l) != 0 {
		t.Error(l, e)
	}
	if e := tri.Check(api.Win{X: 1, Y: 1}); e != api.ErrWin {
		t.Error(e)
	}
}

// wrong answers corners each of which may not be.
func wrong() []api.Win {
	l := []api.Win{
		at(-1, 0), at(0, -1), at(16385, 0), at(0, 16385), at(math.MinInt, 0), at(0, math.MinInt), at(math.MaxInt, 0), at(0, math.MaxInt),
		{W: 0}, {W: -1}, {W: api.Least},
	}
	many := at(0, 0)
	many.Vars = make([]api.Vec, 5)
	return append(l, many)
}

// right answers corners that may be and go together.
func right() []api.Win {
	return []api.Win{at(0, 0), at(16384, 0), at(0, 16384), at(16384, 16384), {W: 1}, {W: api.Most}, {W: one, Z: api.Least, Size: api.Least}, {W: one, Z: api.Most, Size: api.Most}}
}

// with answers a corner with n Vars.
func with(p api.Win, n int) api.Win {
	p.Vars = make([]api.Vec, n)
	return p
}

// P22.1: no corner, one and several; each field at its ends and beyond them.
func TestCheck(t *testing.T) {
	if e := tri.Check(); e != api.OK {
		t.Error(e)
	}
	for i, p := range right() {
		for n := range 5 {
			if e := tri.Check(with(p, n)); e != api.OK {
				t.Error(i, n, e)
			}
		}
		if e := tri.Check(with(p, 5)); e != api.ErrWin {
			t.Error(i, e)
		}
	}
	if e := tri.Check(right()...); e != api.OK {
		t.Error(e)
	}
	for i, p := range wrong() {
		if e := tri.Check(p); e != api.ErrWin {
			t.Error(i, p, e)
		}
		for k := range len(right()) + 1 {
			if e := tri.Check(slices.Insert(right(), k, p)...); e != api.ErrWin {
				t.Error(i, k, e)
			}
		}
		if e := tri.Check(p, p, p); e != api.ErrWin {
			t.Error(i, e)
		}
	}
}

// P22.1: unlike many Vars, whichever corner has them; nil and no Vars are one.
func TestCheckVars(t *testing.T) {
	for n := range 5 {
		for m := range 5 {
			want := api.ErrWin
			if n == m {
				want = api.OK
			}
			p, q := with(at(1, 1), n), with(at(2, 2), m)
			for _, l := range [][]api.Win{{p, q}, {p, p, q}, {p, q, p}, {q, p, p}, {p, p, p, q}} {
				if e := tri.Check(l...); e != want {
					t.Error(n, m, e)
				}
			}
		}
	}
	if e := tri.Check(at(0, 0), with(at(0, 0), 0)); e != api.OK {
		t.Error(e)
	}
}

// P22.1: areas either way round, of three corners in a row, and of corners that are one.
func TestArea(t *testing.T) {
	for _, c := range []struct {
		a, b, c [2]int
		area    int
	}{
		{[2]int{0, 0}, [2]int{1, 0}, [2]int{0, 1}, 1},
		{[2]int{10, 20}, [2]int{13, 24}, [2]int{15, 21}, 3*1 - 5*4},
		{[2]int{0, 0}, [2]int{16384, 0}, [2]int{0, 16384}, 16384 * 16384},
		{[2]int{16384, 16384}, [2]int{0, 16384}, [2]int{16384, 0}, 16384 * 16384},
		{[2]int{0, 0}, [2]int{100, 200}, [2]int{150, 300}, 0},
		{[2]int{5, 7}, [2]int{5, 7}, [2]int{100, 3}, 0},
		{[2]int{5, 7}, [2]int{5, 7}, [2]int{5, 7}, 0},
		{[2]int{1, 9}, [2]int{1, 2}, [2]int{1, 16384}, 0},
		{[2]int{3, 3}, [2]int{1, 3}, [2]int{16384, 3}, 0},
	} {
		p, q, r := at(c.a[0], c.a[1]), at(c.b[0], c.b[1]), at(c.c[0], c.c[1])
		for _, n := range []int{tri.Area(p, q, r), tri.Area(q, r, p), tri.Area(r, p, q), -tri.Area(p, r, q), -tri.Area(r, q, p), -tri.Area(q, p, r)} {
			if n != c.area {
				t.Error(c, n)
			}
		}
	}
}

// P22.1: corners that do not go together have no area.
func TestAreaWrong(t *testing.T) {
	a, b, c := at(0, 0), at(512, 0), at(0, 512)
	for i, p := range append(wrong(), with(at(512, 512), 1)) {
		for _, n := range []int{tri.Area(p, b, c), tri.Area(a, p, c), tri.Area(a, b, p), tri.Area(p, p, b)} {
			if n != 0 {
				t.Error(i, p, n)
			}
		}
	}
	if n := tri.Area(with(a, 4), with(b, 4), with(c, 4)); n != 262144 {
		t.Error(n)
	}
	if n := tri.Area(with(a, 5), with(b, 5), with(c, 5)); n != 0 {
		t.Error(n)
	}
}
