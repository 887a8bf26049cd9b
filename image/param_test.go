package image_test

import (
	"slices"
	"testing"

	"paintbox/api"
	"paintbox/image"
)

// P8.3: each parameter and each value that it may have, and those beside them.
func TestParam(t *testing.T) {
	most := map[int]int{1: 3, 2: 3, 3: 4, 4: 2}
	values := append(ends(), -2, -1, 0, 1, 2, 3, 4, 5, 6)
	for name, x := range sound() {
		for _, which := range append(ends(), -2, -1, 0, 1, 2, 3, 4, 5, 6, 9) {
			for _, value := range values {
				got, err := image.Param(x, which, value)
				if value < 1 || value > most[which] {
					refused(t, name+": Param "+number(which)+", "+number(value), got, err, api.ErrArg)
					continue
				}
				want := copied(x)
				*[]*int{&want.WrapS, &want.WrapT, &want.Min, &want.Mag}[which-1] = value
				taken(t, name+": Param "+number(which)+", "+number(value), got, err, want)
			}
		}
	}
}

// P8.3: the numbers of the parameters and of their values are the chapter's.
func TestParamNumbers(t *testing.T) {
	got := []int{api.ParamWrapS, api.ParamWrapT, api.ParamMin, api.ParamMag, api.Repeat, api.Clamp, api.Mirror, api.Nearest, api.Linear, api.NearestMip, api.LinearMip, api.MaxLevels, api.MaxSide, int(api.ErrImage), int(api.ErrFormat)}
	if want := []int{1, 2, 3, 4, 1, 2, 3, 1, 2, 3, 4, 7, 64, 180, 181}; !slices.Equal(got, want) {
		t.Errorf("the numbers are %v; want %v", got, want)
	}
}

// sized answers the size of level n by the chapter's words.
func sized(side, n int) int {
	return max(1, side>>n)
}

// P8.3: Count of all sides, and of those that none has.
func TestCount(t *testing.T) {
	for w := -2; w <= 67; w++ {
		for h := -2; h <= 67; h++ {
			want := 0
			if w >= 1 && w <= 64 && h >= 1 && h <= 64 {
				n := 0
				for sized(w, n) > 1 || sized(h, n) > 1 {
					n++
				}
				want = n + 1
			}
			if got := image.Count(w, h); got != want {
				t.Errorf("Count(%d, %d) = %d; want %d", w, h, got, want)
			}
		}
	}
	for _, row := range [][3]int{{1, 1, 1}, {2, 1, 2}, {1, 2, 2}, {3, 3, 2}, {4, 1, 3}, {63, 1, 6}, {1, 63, 6}, {64, 1, 7}, {1, 64, 7}, {64, 64, 7}, {0, 1, 0}, {1, 0, 0}, {0, 0, 0}, {65, 64, 0}, {64, 65, 0}, {-1, 1, 0}, {1, -1, 0}} {
		if got := image.Count(row[0], row[1]); got != row[2] {
			t.Errorf("Count(%d, %d) = %d; want %d", row[0], row[1], got, row[2])
		}
	}
	for _, n := range ends() {
		for _, m := range append(ends(), 1, 64) {
			if image.Count(n, m) != 0 || image.Count(m, n) != 0 {
				t.Errorf("Count(%d, %d) = %d, %d", n, m, image.Count(n, m), image.Count(m, n))
			}
		}
	}
}

// steps answers an image with all levels of such sides, of noughts.
func steps(w, h int) api.Image {
	var levels []api.Level
	for n := 0; ; n++ {
		levels = append(levels, flat(sized(w, n), sized(h, n), 1))
		if sized(w, n) == 1 && sized(h, n) == 1 {
			return grey(levels...)
		}
	}
}

// isPower tells whether a side is one of the powers of 2.
func isPower(n int) bool {
	return slices.Contains([]int{1, 2, 4, 8, 16, 32, 64}, n)
}

// completes holds Complete of an image, with each wrap and each filter, against what is wanted of sides of powers and of others.
func completes(t *testing.T, what string, x api.Image, powers, levels bool) {
	t.Helper()
	for s := 1; s <= 3; s++ {
		for r := 1; r <= 3; r++ {
			for m := 1; m <= 4; m++ {
				for g := 1; g <= 2; g++ {
					x.WrapS, x.WrapT, x.Min, x.Mag = s, r, m, g
					want := powers || s == api.Clamp && r == api.Clamp && m <= api.Linear
					if m >= api.NearestMip {
						want = want && levels
					}
					if got := image.Complete(x); got != want {
						t.Errorf("%s: Complete of %d, %d, %d, %d = %v", what, s, r, m, g, got)
					}
				}
			}
		}
	}
}

// P8.3: Complete of all sides, with each wrap and each filter, with all levels and without.
func TestComplete(t *testing.T) {
	for w := 1; w <= 64; w++ {
		for _, h := range []int{1, 2, 3, 4, 7, 8, 12, 31, 32, 33, 63, 64} {
			powers := isPower(w) && isPower(h)
			what := number(w) + " times " + number(h)
			completes(t, what, steps(w, h), powers, true)
			completes(t, what+" alone", grey(flat(w, h, 1)), powers, w == 1 && h == 1)
			completes(t, what+" turned", steps(h, w), powers, true)
		}
	}
}

// P8.3: one level that is not there, or of another size, and mips are not complete; what stands behind all levels plays no part.
func TestCompleteLevels(t *testing.T) {
	for _, side := range [][2]int{{2, 1}, {1, 2}, {4, 4}, {8, 2}, {1, 64}, {64, 64}} {
		whole := steps(side[0], side[1])
		for n := 1; n < len(whole.Levels); n++ {
			l := whole.Levels[n]
			for _, other := range []api.Level{flat(l.W+1, l.H, 1), flat(l.W, l.H+1, 1), flat(l.H+2, l.W, 1), flat(2*l.W, 2*l.H, 1)} {
				x := copied(whole)
				x.Levels[n] = other
				completes(t, "another size at "+number(n), x, true, false)
			}
			x := copied(whole)
			x.Levels = x.Levels[:n]
			completes(t, "up to level "+number(n), x, true, false)
			if n < len(whole.Levels)-1 {
				x = copied(whole)
				x.Levels[n] = api.Level{}
				completes(t, "without level "+number(n), x, true, false)
			}
		}
		if len(whole.Levels) <= 5 {
			more := copied(whole)
			more.Levels = append(more.Levels, api.Level{}, flat(3, 5, 1))
			completes(t, "more levels than need be", more, true, true)
		}
	}
	wide := grey(flat(4, 2, 1), flat(1, 2, 1), flat(1, 1, 1))
	completes(t, "sides that are exchanged", wide, true, false)
}

// P8.3: without level 0 nothing is complete.
func TestCompleteNone(t *testing.T) {
	for s := 1; s <= 3; s++ {
		for m := 1; m <= 4; m++ {
			for _, levels := range [][]api.Level{nil, {{}, flat(1, 1, 1)}, {{}, flat(1, 1, 1), flat(1, 1, 1)}} {
				x := grey(levels...)
				x.WrapS, x.WrapT, x.Min = s, s, m
				if levels == nil {
					x.Format = 0
				}
				is(t, "Check", image.Check(x), api.OK)
				if image.Complete(x) {
					t.Errorf("%v is complete", x)
				}
			}
		}
	}
}

// P8.3: Cost counts the bytes of all levels.
func TestCost(t *testing.T) {
	for format, size := range sizes() {
		x := image.New()
		if got := image.Cost(x); got != 0 {
			t.Errorf("Cost of New = %d", got)
		}
		sum := 0
		for _, row := range [][3]int{{3, 2, 2}, {0, 64, 64}, {6, 1, 1}, {1, 5, 7}} {
			var err api.Errno
			x, err = image.Put(x, row[0], format, api.Level{W: row[1], H: row[2]})
			is(t, "Put", err, api.OK)
			sum += row[1] * row[2] * size
			if got := image.Cost(x); got != sum {
				t.Errorf("Cost = %d; want %d", got, sum)
			}
		}
	}
	full := image.New()
	for level := range 7 {
		full, _ = image.Put(full, level, api.RGBA8, api.Level{W: 64, H: 64})
	}
	if got := image.Cost(full); got != 7*64*64*4 {
		t.Errorf("Cost of the greatest = %d", got)
	}
}
