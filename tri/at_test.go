package tri_test

import (
	"math"
	"testing"

	"paintbox/api"
	"paintbox/tri"
)

// numbers are three corners' depths, Ws and one number of a Var.
type numbers struct {
	z, w, v [3]api.Fix
}

// middle answers the fragment of cell (0, 0) of the corners (0, 0), (512, 0), (0, 512): there the first corner counts twice as much as each other one.
func middle(t *testing.T, n numbers) api.Frag {
	t.Helper()
	l := [3]api.Win{at(0, 0), at(512, 0), at(0, 512)}
	for i := range l {
		l[i].Z, l[i].W, l[i].Vars = n.z[i], n.w[i], []api.Vec{{0, 0, n.v[i], 0}}
	}
	f, e := tri.At(l[0], l[1], l[2], 0, 0)
	g, wrong := tri.At(l[0], l[2], l[1], 0, 0)
	if e != api.OK || wrong != api.OK || !f.Front || g.Front {
		t.Fatal(f, g, e, wrong)
	}
	g.Front = true
	if !tri.Same([]api.Frag{f}, []api.Frag{g}) || f.X != 0 || f.Y != 0 || f.Point != (api.Vec{}) || len(f.Vars) != 1 {
		t.Fatal(f, g)
	}
	if f.Vars[0] != (api.Vec{0, 0, f.Vars[0][2], 0}) {
		t.Fatal(f)
	}
	return f
}

// three is a row of three numbers.
func three(a, b, c api.Fix) [3]api.Fix { return [3]api.Fix{a, b, c} }

// P22.3: Z, and a Var where all corners have one W: rounded to the nearest, ties from 0 away.
func TestZ(t *testing.T) {
	for _, c := range []struct {
		l    [3]api.Fix
		want api.Fix
	}{
		{three(0, 0, 0), 0},
		{three(one, 0, 0), one / 2},
		{three(0, one, 0), one / 4},
		{three(0, 0, one), one / 4},
		{three(1, 0, 0), 1},
		{three(-1, 0, 0), -1},
		{three(3, 0, 0), 2},
		{three(-3, 0, 0), -2},
		{three(0, 1, 0), 0},
		{three(0, -1, 0), 0},
		{three(0, 3, 0), 1},
		{three(0, 0, -3), -1},
		{three(0, 1, 1), 1},
		{three(0, -1, -1), -1},
		{three(1, -2, 0), 0},
		{three(5, -2, -2), 2},
		{three(-5, 2, 2), -2},
		{three(-2, 1, 4), 0},
		{three(-2, 1, 5), 1},
		{three(-2, 0, 3), 0},
		{three(-2, 0, 2), -1},
		{three(api.Most, api.Most, api.Most), api.Most},
		{three(api.Least, api.Least, api.Least), api.Least},
		{three(api.Most, api.Least, api.Least), -1},
		{three(api.Least, api.Most, api.Most), -1},
		{three(api.Least, api.Least, api.Most), -1 << 30},
		{three(api.Most, api.Least, api.Most), 1<<30 - 1},
		{three(api.Most, api.Most, api.Most-1), api.Most},
		{three(api.Most, api.Most-1, api.Most-1), api.Most},
		{three(api.Least, api.Least, api.Least+2), api.Least},
		{three(api.Least, api.Least, api.Least+3), api.Least + 1},
	} {
		if f := middle(t, numbers{z: c.l, w: three(one, one, one)}); f.Z != c.want || f.InvW != one || f.Vars[0][2] != 0 {
			t.Error("Z", c.l, c.want, f)
		}
		for _, w := range []api.Fix{1, 2, one, api.Most} {
			if f := middle(t, numbers{v: c.l, w: three(w, w, w)}); f.Vars[0][2] != c.want || f.Z != 0 {
				t.Error("a Var", w, c.l, c.want, f)
			}
		}
	}
}

// P22.3: one over W at a centre: each corner's is rounded first, then what stands between them; the least and the greatest W.
func TestInvW(t *testing.T) {
	for _, c := range []struct {
		w    [3]api.Fix
		want api.Fix
	}{
		{three(one, one, one), one},
		{three(2*one, 2*one, 2*one), one / 2},
		{three(one, 2*one, 4*one), one/2 + one/8 + one/16},
		{three(65535, one, one), 65537},   // 65537 and 65536: the half is rounded up
		{three(one, 65535, one), 65536},   // a quarter
		{three(one, 65535, 65535), 65537}, // a half
		{three(api.Most, api.Most, api.Most), 2},
		{three(1, 1, 1), api.Most},
		{three(2, 2, 2), api.Most},
		{three(3, 3, 3), 1431655765},
		{three(1, api.Most, api.Most), 1<<30 + 1},       // (2 Most + 2 + 2) / 4 is 2^30 and a half
		{three(api.Most, 1, 1), 1<<30 + 1},              // just as much
		{three(api.Most, 1, api.Most), 536870913},       // (4 + Most + 2) / 4
		{three(3*one, 3*one, 3*one), 21845},             // 21845 and a third
		{three(3*one, one, one), 43691},                 // (2 times 21845 and 131072) / 4: a half
		{three(one*3/2, one*3/2, one), 43691 + 21845/4}, // (3 times 43691 and 65536) / 4 is 49152 and a quarter
	} {
		if f := middle(t, numbers{w: c.w}); f.InvW != c.want {
			t.Error(c.w, c.want, f.InvW)
		}
	}
}

// P22.3: Vars of corners of unlike W: what is nearer counts more.
func TestUnlikeW(t *testing.T) {
	for _, c := range []struct {
		w, v [3]api.Fix
		want api.Fix
	}{
		{three(one, 3*one, one), three(0, one, 0), 6554},                                  // 1 of 10
		{three(1, 2, 2), three(0, 3, 0), 1},                                               // 3 of 6: a half
		{three(1, 2, 2), three(0, -3, 0), -1},                                             // and below 0
		{three(1, 2, 2), three(1, 0, 0), 1},                                               // 4 of 6
		{three(1, 2, 2), three(0, 1, 1), 0},                                               // 2 of 6
		{three(1, 2, 2), three(0, -1, -1), 0},                                             //
		{three(1, 2, 2), three(-2, 1, 1), -1},                                             // -6 of 6
		{three(1, 2, 2), three(1, -1, 0), 1},                                              // 3 of 6
		{three(1, 2, 2), three(-1, 1, 0), -1},                                             //
		{three(2, 1, 1), three(one, 0, 0), 21845},                                         // 2 of 6
		{three(2, 1, 1), three(0, one, 0), 21845},                                         // 2 of 6
		{three(api.Most, 1, 1), three(api.Most, 0, 0), 1},                                 // 2 of 2 and 2 Most
		{three(api.Most, 1, 1), three(0, api.Least, api.Least), -2147483647},              // Least, but for a part of it
		{three(1, api.Most, api.Most), three(api.Most, api.Least, api.Least), 2147483645}, // Most, but for two
		{three(1, api.Most, 1), three(0, api.Most, 0), 0},                                 // 1 of 1 and 3 Most: a third
		{three(api.Most, api.Most, 1), three(0, 0, api.Most), 2147483644},                 // Most of Most and 3: Most, but for 3
	} {
		if f := middle(t, numbers{w: c.w, v: c.v}); f.Vars[0][2] != c.want {
			t.Error(c.w, c.v, c.want, f.Vars[0][2])
		}
	}
}

// P22.3: each number of each Var is told by itself, and the fragment has as many Vars as the corners.
func TestVars(t *testing.T) {
	l := [3]api.Win{at(0, 0), at(512, 0), at(0, 512)}
	for n := range 5 {
		for i := range l {
			l[i].Vars = nil
			for k := range n {
				l[i].Vars = append(l[i].Vars, api.Vec{api.Fix(100 * k), api.Fix(10 * i), api.Fix(4 - 8*min(i, 1)), -1})
			}
		}
		f, e := tri.At(l[0], l[1], l[2], 0, 0)
		if e != api.OK || len(f.Vars) != n {
			t.Fatal(n, f, e)
		}
		for k, v := range f.Vars {
			if v != (api.Vec{api.Fix(100 * k), 8, 0, -1}) {
				t.Error(n, k, v)
			}
		}
	}
}

// P22.3: where the fragment lies, and which side is seen.
func TestWhere(t *testing.T) {
	for _, w := range ways(at(0, 0), at(16384, 0), at(16384, 16384)) {
		f, e := tri.At(w[0], w[1], w[2], 63, 2)
		if e != api.OK || f.X != 63 || f.Y != 2 || f.Front != (tri.Area(w[0], w[1], w[2]) > 0) || f.Point != (api.Vec{}) || len(f.Vars) != 0 {
			t.Error(f, e)
		}
	}
}

// P22.3: what is not covered, cells beyond the planes, and corners that do not go together, which are told first.
func TestAtWrong(t *testing.T) {
	a, b, c := at(0, 0), at(16384, 0), at(0, 16384)
	beyond := [][2]int{{-1, 0}, {0, -1}, {64, 0}, {0, 64}, {63, 63}, {32, 31}, {math.MinInt, 0}, {0, math.MinInt}, {math.MaxInt, 0}, {0, math.MaxInt}}
	for _, p := range beyond {
		if f, e := tri.At(a, b, c, p[0], p[1]); e != api.ErrNone || !tri.Same([]api.Frag{f}, []api.Frag{{}}) {
			t.Error(p, f, e)
		}
	}
	if _, e := tri.At(a, b, c, 0, 63); e != api.ErrNone {
		t.Error(e)
	}
	if _, e := tri.At(a, b, c, 0, 62); e != api.OK {
		t.Error(e)
	}
	for i, q := range append(wrong(), with(at(8000, 8000), 1)) {
		for _, w := range append(ways(q, b, c), ways(a, b, q)...) {
			for _, p := range append(beyond, [2]int{0, 0}, [2]int{8, 8}) {
				if f, e := tri.At(w[0], w[1], w[2], p[0], p[1]); e != api.ErrWin || !tri.Same([]api.Frag{f}, []api.Frag{{}}) {
					t.Error(i, p, f, e)
				}
			}
		}
	}
}

// P22.2, P22.3: the least area there is: the cell at whose centre a corner lies, where both its sides keep it, has what that corner says.
func TestLeastArea(t *testing.T) {
	for _, z := range []api.Fix{-1, 0, 1, api.Least, api.Most} {
		a, b, c := with(deep(129, 128, 7), 1), with(deep(128, 128, z), 1), with(deep(129, 127, -7), 1)
		b.W, b.Vars[0] = 2*one, api.Vec{z, 5, -5, -z}
		if n := tri.Area(a, b, c); n != 1 {
			t.Fatal(n)
		}
		for i, w := range ways(a, b, c) {
			f, e := tri.At(w[0], w[1], w[2], 0, 0)
			if e != api.OK || !tri.Same([]api.Frag{f}, []api.Frag{{Z: z, InvW: one / 2, Front: i < 3, Vars: b.Vars}}) {
				t.Error(z, i, f, e)
			}
		}
	}
}
