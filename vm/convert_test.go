package vm_test

import (
	"math"
	"testing"

	"paintbox/api"
	"paintbox/sense"
	"paintbox/vm"
)

// P18.3: every pair of bases, with numbers above and below 0, whole ones and others, at each place.
func TestConvert(t *testing.T) {
	const least, most = api.Least, api.Most
	for _, r := range []struct {
		from, to int
		x, want  api.Fix
	}{
		{1, 1, 5, 5}, {1, 1, least, least}, {1, 1, most, most}, {1, 2, 3 * one / 2, 1}, {1, 2, -3 * one / 2, -1}, {1, 2, one - 1, 0}, {1, 2, 1 - one, 0}, {1, 2, -one, -1}, {1, 2, one, 1}, {1, 2, -one - 1, -1}, {1, 2, -2 * one, -2}, {1, 2, -1, 0}, {1, 2, 1, 0}, {1, 2, most, 32767}, {1, 2, least, -32768}, {1, 2, least + 1, -32767},
		{1, 3, 0, 0}, {1, 3, 1, 1}, {1, 3, -1, 1}, {1, 3, one, 1}, {1, 3, 65536 * 4, 1}, {1, 3, least, 1}, {1, 3, most, 1},
		{2, 1, 0, 0}, {2, 1, 1, one}, {2, 1, -1, -one}, {2, 1, 32767, 32767 * one}, {2, 1, 32768, most}, {2, 1, -32768, least}, {2, 1, -32769, least}, {2, 1, most, most}, {2, 1, least, least},
		{2, 2, 7, 7}, {2, 2, least, least}, {2, 2, most, most}, {2, 3, 0, 0}, {2, 3, 2, 1}, {2, 3, -1, 1}, {2, 3, 65536, 1}, {2, 3, least, 1}, {2, 3, most, 1},
		{3, 1, 0, 0}, {3, 1, 1, one}, {3, 1, 2, one}, {3, 1, -1, one}, {3, 1, least, one}, {3, 1, most, one}, {3, 2, 0, 0}, {3, 2, 1, 1}, {3, 2, 5, 5}, {3, 2, -5, -5}, {3, 2, most, most}, {3, 2, least, least}, {3, 3, 0, 0}, {3, 3, 1, 1}, {3, 3, 5, 5}, {3, 3, least, least}, {3, 3, most, most},
	} {
		for n := 1; n <= 4; n++ {
			for place := range n {
				v, want := api.Vec{}, api.Vec{}
				v[place], want[place] = r.x, r.want
				for k := n; k < 4; k++ {
					v[k] = 9 * one
				}
				if got, err := vm.Convert(r.from, r.to, n, v); err != api.OK || got != want {
					t.Errorf("Convert(%d, %d, %d, %v): %v, %d; want %v", r.from, r.to, n, v, got, err, want)
				}
			}
		}
	}
}

// P18.3: against what chapter 15 says, number by number; a float's whole part goes towards 0, an int's float saturates, held against Go's floats.
func TestConvertChance(t *testing.T) {
	c := chance(1)
	for range 3000 {
		v := c.vector()
		for from := 1; from <= 3; from++ {
			for to := 1; to <= 3; to++ {
				for n := 1; n <= 4; n++ {
					got, err := vm.Convert(from, to, n, v)
					want := each(n, func(i int) api.Fix {
						x, _ := sense.Convert(from, to, v[i])
						return x
					})
					if err != api.OK || got != want {
						t.Fatalf("Convert(%d, %d, %d, %v): %v, %d; want %v", from, to, n, v, got, err, want)
					}
				}
			}
		}
		whole, _ := vm.Convert(api.BaseFloat, api.BaseInt, 4, v)
		number, _ := vm.Convert(api.BaseInt, api.BaseFloat, 4, v)
		for i, x := range v {
			if want := math.Trunc(float64(x) / 65536); float64(whole[i]) != want {
				t.Fatalf("the int of raw %d: %d", x, whole[i])
			}
			if want := min(max(float64(x)*65536, float64(api.Least)), float64(api.Most)); float64(number[i]) != want {
				t.Fatalf("the float of %d: raw %d", x, number[i])
			}
		}
	}
}

// P18.3: bases that are none, either one or both, and n that can't be.
func TestConvertRefuses(t *testing.T) {
	is := func(base int) bool { return base >= 1 && base <= 3 }
	v := numbers(1, -2, 3, -4)
	for _, from := range append(far(), sequence(-3, 8)...) {
		for _, to := range append(far(), sequence(-3, 8)...) {
			for _, n := range append(far(), sequence(-2, 7)...) {
				x, err := vm.Convert(from, to, n, v)
				if may := is(from) && is(to) && n >= 1 && n <= 4; may != (err == api.OK) || !may && (err != api.ErrArg || x != api.Vec{}) {
					t.Errorf("Convert(%d, %d, %d): %v, %d", from, to, n, x, err)
				}
			}
		}
	}
}
