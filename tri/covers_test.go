package tri_test

import (
	"math"
	"slices"
	"testing"

	"paintbox/api"
	"paintbox/tri"
)

// ways answers the six orders of three corners.
func ways(a, b, c api.Win) [][3]api.Win {
	return [][3]api.Win{{a, b, c}, {b, c, a}, {c, a, b}, {a, c, b}, {c, b, a}, {b, a, c}}
}

// covered answers which cells a triangle covers, row by row from below, as Covers says.
func covered(a, b, c api.Win) [][2]int {
	var l [][2]int
	for y := range 64 {
		for x := range 64 {
			if tri.Covers(a, b, c, x, y) {
				l = append(l, [2]int{x, y})
			}
		}
	}
	return l
}

// P22.2, P22.4: centres within, without, at corners, and on each kind of side, in each order of the corners. The corners are centres themselves: of the left and of the upper sides the centres are covered, of the right and of the lower ones not.
func TestSides(t *testing.T) {
	for _, c := range []struct {
		kind    string
		a, b, c api.Win
		want    [][2]int
	}{
		{"left goes down, lower goes level to the right, upper goes up", at(128, 128), at(896, 128), at(128, 896), [][2]int{{0, 1}, {1, 1}, {0, 2}}},
		{"right goes up, upper goes level to the left, lower goes down", at(896, 896), at(128, 896), at(896, 128), [][2]int{{2, 1}, {1, 2}, {2, 2}, {0, 3}, {1, 3}, {2, 3}}},
		{"right goes up, lower goes level to the right, upper goes down", at(128, 128), at(896, 128), at(896, 896), [][2]int{{1, 1}, {2, 1}, {2, 2}}},
		{"left goes down, upper goes level to the left, lower goes up", at(128, 128), at(896, 896), at(128, 896), [][2]int{{0, 1}, {0, 2}, {1, 2}, {0, 3}, {1, 3}, {2, 3}}},
	} {
		for i, w := range ways(c.a, c.b, c.c) {
			if got := covered(w[0], w[1], w[2]); !slices.Equal(got, c.want) {
				t.Error(c.kind, i, got, c.want)
			}
		}
	}
}

// P22.2: a centre that lies one part of a cell beyond a side is not covered, one that lies as far within is.
func TestNear(t *testing.T) {
	for _, c := range []struct {
		a, b, c api.Win
		want    bool
	}{
		{at(0, 127), at(1000, 127), at(0, 1000), true},
		{at(0, 129), at(1000, 129), at(0, 1000), false},
		{at(127, 0), at(1000, 0), at(127, 1000), true},
		{at(129, 0), at(1000, 0), at(129, 1000), false},
		{at(0, 0), at(129, 0), at(129, 129), true}, // on the side that goes down
		{at(0, 0), at(129, 0), at(128, 129), true},
		{at(0, 0), at(130, 0), at(130, 129), false},
		{at(0, 0), at(0, 129), at(129, 129), false}, // on the side that goes up
		{at(0, 0), at(0, 129), at(130, 129), true},
		{at(0, 0), at(0, 130), at(129, 130), false},
		{at(0, 0), at(0, 127), at(127, 127), false},
		{at(0, 0), at(257, 0), at(0, 257), true},
		{at(0, 0), at(255, 0), at(0, 255), false},
		{at(0, 0), at(256, 0), at(0, 256), false},
		{at(0, 0), at(256, 0), at(0, 257), true},
	} {
		for i, w := range ways(c.a, c.b, c.c) {
			if got := tri.Covers(w[0], w[1], w[2], 0, 0); got != c.want {
				t.Error(c, i, got)
			}
		}
	}
}

// P22.2: cells at the ends of the planes, and beyond them.
func TestCoversEnds(t *testing.T) {
	for _, w := range ways(at(0, 0), at(16384, 0), at(0, 16384)) {
		lower := covered(w[0], w[1], w[2])
		if len(lower) != 63*64/2 {
			t.Error(len(lower))
		}
	}
	var sum int
	for _, w := range ways(at(16384, 16384), at(0, 16384), at(16384, 0)) {
		a, b, c := w[0], w[1], w[2]
		sum = len(covered(a, b, c))
		for _, p := range [][2]int{{63, 63}, {0, 63}, {63, 0}, {63, 1}} {
			if !tri.Covers(a, b, c, p[0], p[1]) {
				t.Error(p)
			}
		}
		for _, p := range [][2]int{{64, 63}, {63, 64}, {64, 64}, {-1, 63}, {63, -1}, {math.MinInt, 63}, {63, math.MinInt}, {math.MaxInt, 63}, {63, math.MaxInt}, {0, 0}} {
			if tri.Covers(a, b, c, p[0], p[1]) {
				t.Error(p)
			}
		}
	}
	if sum != 65*64/2 {
		t.Error(sum)
	}
	// A cell beyond the planes isn't covered, though its centre lies within the corners' bounds.
	if tri.Covers(at(0, 0), at(16384, 0), at(0, 16384), -1, 0) || !tri.Covers(at(0, 0), at(16384, 0), at(0, 16384), 0, 0) {
		t.Error("(-1, 0)")
	}
}

// P22.2: what has no area covers nothing, even of the centres on it.
func TestCoversNothing(t *testing.T) {
	for _, c := range [][3]api.Win{
		{at(128, 128), at(896, 896), at(384, 384)},
		{at(128, 896), at(128, 128), at(128, 384)},
		{at(896, 128), at(128, 128), at(384, 128)},
		{at(128, 128), at(128, 128), at(896, 896)},
		{at(384, 384), at(384, 384), at(384, 384)},
	} {
		for i, w := range ways(c[0], c[1], c[2]) {
			if got := covered(w[0], w[1], w[2]); got != nil {
				t.Error(c, i, got)
			}
			if _, e := tri.At(w[0], w[1], w[2], 1, 1); e != api.ErrNone {
				t.Error(c, i, e)
			}
			if l, e := tri.Fill(w[0], w[1], w[2], whole()); e != api.OK || len(l) != 0 {
				t.Error(c, i, l, e)
			}
		}
	}
}

// P22.2: corners that do not go together cover nothing.
func TestCoversWrong(t *testing.T) {
	a, b, c := at(0, 0), at(16384, 0), at(0, 16384)
	for i, p := range append(wrong(), with(at(8000, 8000), 1)) {
		for _, w := range append(ways(p, b, c), ways(a, b, p)...) {
			for _, n := range []int{0, 10, 31, 63} {
				if tri.Covers(w[0], w[1], w[2], n, n) || tri.Covers(w[0], w[1], w[2], n, 0) {
					t.Error(i, p, n)
				}
			}
		}
	}
}

// P22.4: of the triangles round a centre one has it, whichever way they go; of each pair beside one another one has each centre on their common side.
func TestFan(t *testing.T) {
	hub := at(1152, 1152)
	rim := []api.Win{at(2176, 1152), at(2176, 2176), at(1152, 2176), at(128, 2176), at(128, 1152), at(128, 128), at(1152, 128), at(2176, 128)}
	for step := 1; step <= 2; step++ {
		count := map[[2]int]int{}
		for i := 0; i < len(rim); i += step {
			for _, p := range covered(rim[i], hub, rim[(i+step)%len(rim)]) {
				count[p]++
			}
		}
		for x := range 9 {
			for y := range 9 {
				n, on := count[[2]int{x, y}], x == 0 || x == 8 || y == 0 || y == 8
				if step == 1 && (n > 1 || n == 0 && !on) {
					t.Error(step, x, y, n)
				}
				if step == 2 && n > 1 {
					t.Error(step, x, y, n)
				}
			}
		}
		if count[[2]int{4, 4}] != 1 {
			t.Error(step, count[[2]int{4, 4}])
		}
	}
}
