package clip_test

import (
	"testing"

	"paintbox/api"
	"paintbox/clip"
)

// wantRow asks for a row of corners.
func wantRow(t *testing.T, l []api.Vert, n int, want ...api.Vert) {
	t.Helper()
	got, e := clip.Cut(l, n)
	if e != api.OK || !as(got, want) {
		t.Error(l, n, got, e, want)
	}
}

// P21.1: rows of no corner, one, and two.
func TestCutShort(t *testing.T) {
	in, out := at(0, 0, 0, one), at(3*one, 0, 0, one)
	for n := range 7 {
		wantRow(t, nil, n)
		wantRow(t, []api.Vert{}, n)
		wantRow(t, []api.Vert{in}, n, in)
		wantRow(t, []api.Vert{in, in}, n, in, in)
	}
	wantRow(t, []api.Vert{out}, 2)
	wantRow(t, []api.Vert{out, out}, 2)
	edge := at(65535, 0, 0, one) // a third of One, rounded, times three
	wantRow(t, []api.Vert{in, out}, 2, edge, in, edge)
	wantRow(t, []api.Vert{out, in}, 2, edge, edge, in)
}

// P21.1: rows within, without, with one side cut, with two; the way that ends at the first corner comes first.
func TestCutOrder(t *testing.T) {
	a, b, c := at(-one, -one, 0, one), at(3*one, -one, 0, one), at(-one, 3*one, 0, one)
	wantRow(t, []api.Vert{a, b, c}, 1, a, b, c)
	wantRow(t, []api.Vert{a, b, c}, 2, a, at(one, -one, 0, one), at(one, one, 0, one), c)
	wantRow(t, []api.Vert{b, c, a}, 2, at(one, -one, 0, one), at(one, one, 0, one), c, a)
	wantRow(t, []api.Vert{c, a, b}, 2, at(one, one, 0, one), c, a, at(one, -one, 0, one))
	d := at(3*one, 3*one, 0, one)
	wantRow(t, []api.Vert{a, b, d}, 2, at(one, one, 0, one), a, at(one, -one, 0, one))
	wantRow(t, []api.Vert{b, d, at(3*one, 0, 0, one)}, 2)
}

// P21.1: a corner just on the plane lies within, and nothing is cut there but what goes beyond it.
func TestCutOnPlane(t *testing.T) {
	for n, p := range []api.Vert{
		at(0, 0, 0, 1), at(-one, 0, 0, one), at(one, 0, 0, one), at(0, -one, 0, one), at(0, one, 0, one), at(0, 0, -one, one), at(0, 0, one, one),
	} {
		in := at(0, 0, 0, one)
		wantRow(t, []api.Vert{p, in, p}, n, p, in, p)
		wantRow(t, []api.Vert{p}, n, p)
		out := p
		out.Pos[3] -= 1
		wantRow(t, []api.Vert{out}, n)
		wantRow(t, []api.Vert{p, out}, n, p, p, p)
	}
}

// P21.1: each distance cuts by its own numbers, half way between two corners.
func TestCutEach(t *testing.T) {
	for n, out := range []api.Vert{
		at(0, 0, 0, -one+2), at(-3*one, 0, 0, one), at(3*one, 0, 0, one), at(0, -3*one, 0, one), at(0, 3*one, 0, one), at(0, 0, -3*one, one), at(0, 0, 3*one, one),
	} {
		in := at(0, 0, 0, one)
		if n > 0 {
			in.Pos[(n-1)/2] = -out.Pos[(n-1)/2] / 3
		}
		half := at((in.Pos[0]+out.Pos[0])/2, (in.Pos[1]+out.Pos[1])/2, (in.Pos[2]+out.Pos[2])/2, (in.Pos[3]+out.Pos[3])/2)
		wantRow(t, []api.Vert{in, out}, n, half, in, half)
		for m := range 7 {
			if m != n && n > 0 {
				wantRow(t, []api.Vert{in, out}, m, in, out)
			}
		}
	}
}

// P21.1: Size and all numbers of all Vars between two corners; they are told from the corner within on, either way round.
func TestCutCarries(t *testing.T) {
	in := with(at(0, 0, 0, one), 100, api.Vec{0, 1, 2, 3}, api.Vec{api.Most, api.Least, 0, 0})
	out := with(at(4*one, 0, 8, one), -100, api.Vec{4, 5, 6, 7}, api.Vec{api.Least, api.Most, 0, 16})
	// A quarter of the way; what lies between the ends of the numbers saturates ahead of the quarter.
	mid := with(at(one, 0, 2, one), 50, api.Vec{1, 2, 3, 4}, api.Vec{api.Most - 1<<29, api.Least + 1<<29, 0, 4})
	wantRow(t, []api.Vert{in, out}, 2, mid, in, mid)
	wantRow(t, []api.Vert{out, in}, 2, mid, mid, in)
}

// P21.1: corners at the ends of what a number can be: the whole way is saturated too.
func TestCutEnds(t *testing.T) {
	in, out := at(api.Least, 0, 0, api.Most), at(api.Most, 0, 0, api.Least)
	// Both distances saturate, and so does what lies between them: t is One, and so do the ways of x and w.
	edge := at(-1, 0, 0, -1)
	wantRow(t, []api.Vert{in, out}, 2, edge, in, edge)
}

// P21.1: 16 corners may be, each other one without; 17 may not.
func TestCutMany(t *testing.T) {
	var l, want []api.Vert
	for range 8 {
		l = append(l, at(0, 0, 0, one), at(2*one, 0, 0, one))
		want = append(want, at(one, 0, 0, one), at(0, 0, 0, one), at(one, 0, 0, one))
	}
	wantRow(t, l, 2, want...)
	if got, e := clip.Cut(append(l, l[0]), 2); e != api.ErrArg || got != nil {
		t.Error(got, e)
	}
	if got, e := clip.Cut(make([]api.Vert, 100000), 2); e != api.ErrArg || got != nil {
		t.Error(got, e)
	}
}

// P21.1: what may not be cut.
func TestCutWrong(t *testing.T) {
	p := at(0, 0, 0, one)
	two, four, five := with(p, 0, make([]api.Vec, 2)...), with(p, 0, make([]api.Vec, 4)...), with(p, 0, make([]api.Vec, 5)...)
	for _, n := range []int{-1, 7, 1<<63 - 1, -1 << 63} {
		for _, l := range [][]api.Vert{nil, {p}, {p, p, p}, {five}} {
			if got, e := clip.Cut(l, n); e != api.ErrArg || got != nil {
				t.Error(l, n, got, e)
			}
		}
	}
	for _, l := range [][]api.Vert{{p, two}, {two, p}, {p, p, two}, {two, two, p}, {two, four}, {five}, {five, five}, {p, five}, {four, four, five}} {
		if got, e := clip.Cut(l, 0); e != api.ErrArg || got != nil {
			t.Error(l, got, e)
		}
	}
	wantRow(t, []api.Vert{four, four}, 0, four, four)
	empty := p
	empty.Vars = []api.Vec{}
	wantRow(t, []api.Vert{p, empty}, 0, p, p)
}
