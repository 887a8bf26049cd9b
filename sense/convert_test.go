package sense_test

import (
	"math"
	"testing"

	"paintbox/api"
	"paintbox/sense"
)

// P15.1: every pair of Bases, with numbers above and below 0, whole ones and others.
func TestConvert(t *testing.T) {
	const least, most = api.Least, api.Most
	for _, r := range []struct {
		from, to int
		x, want  api.Fix
	}{
		{1, 1, 5, 5}, {1, 1, least, least}, {1, 2, 3 * one / 2, 1}, {1, 2, -3 * one / 2, -1}, {1, 2, one - 1, 0}, {1, 2, 1 - one, 0}, {1, 2, -one, -1}, {1, 2, one, 1}, {1, 2, -one - 1, -1}, {1, 2, -2 * one, -2}, {1, 2, -1, 0}, {1, 2, 1, 0}, {1, 2, most, 32767}, {1, 2, least, -32768}, {1, 2, least + 1, -32767},
		{1, 3, 0, 0}, {1, 3, 1, 1}, {1, 3, -1, 1}, {1, 3, one, 1}, {1, 3, 65536 * 4, 1}, {1, 3, least, 1}, {1, 3, most, 1},
		{2, 1, 0, 0}, {2, 1, 1, one}, {2, 1, -1, -one}, {2, 1, 32767, 32767 * one}, {2, 1, 32768, most}, {2, 1, -32768, least}, {2, 1, -32769, least}, {2, 1, most, most}, {2, 1, least, least},
		{2, 2, 7, 7}, {2, 2, least, least}, {2, 3, 0, 0}, {2, 3, 2, 1}, {2, 3, -1, 1}, {2, 3, 65536, 1}, {2, 3, least, 1},
		{3, 1, 0, 0}, {3, 1, 1, one}, {3, 1, 2, one}, {3, 1, -1, one}, {3, 1, least, one}, {3, 2, 0, 0}, {3, 2, 1, 1}, {3, 2, 5, 5}, {3, 2, -5, -5}, {3, 3, 0, 0}, {3, 3, 1, 1}, {3, 3, 5, 5}, {3, 3, least, least},
	} {
		if x, err := sense.Convert(r.from, r.to, r.x); x != r.want || err != api.OK {
			t.Errorf("Convert(%d, %d, raw %d): %d, %d; want %d", r.from, r.to, r.x, x, err, r.want)
		}
	}
}

// P15.1: a float's whole part goes towards 0, an int's float saturates, held against Go's floats.
func TestConvertChance(t *testing.T) {
	c := chance(1)
	for range 20000 {
		x := c.raw()
		whole, _ := sense.Convert(api.BaseFloat, api.BaseInt, x)
		if want := math.Trunc(float64(x) / 65536); float64(whole) != want {
			t.Fatalf("the int of raw %d: %d", x, whole)
		}
		number, _ := sense.Convert(api.BaseInt, api.BaseFloat, x)
		if want := min(max(float64(x)*65536, float64(api.Least)), float64(api.Most)); float64(number) != want {
			t.Fatalf("the float of %d: raw %d", x, number)
		}
	}
}

// P15.1: Bases that are none, either one or both.
func TestConvertRefuses(t *testing.T) {
	is := func(base int) bool { return base >= 1 && base <= 3 }
	for _, from := range append(far(), sequence(-3, 8)...) {
		for _, to := range append(far(), sequence(-3, 8)...) {
			for _, x := range edges() {
				y, err := sense.Convert(from, to, x)
				if may := is(from) && is(to); may != (err == api.OK) || !may && (err != api.ErrArg || y != 0) {
					t.Errorf("Convert(%d, %d, %d): %d, %d", from, to, x, y, err)
				}
			}
		}
	}
}
