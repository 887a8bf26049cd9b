package sense_test

import (
	"math"
	"slices"
	"testing"

	"paintbox/api"
	"paintbox/fix"
	"paintbox/maths"
	"paintbox/sense"
)

// chance tells numbers that look like chance, and are always the same.
type chance uint64

func (c *chance) below(n int) int {
	*c = *c*6364136223846793005 + 1442695040888963407
	return int(uint64(*c)>>33) % n
}

// of answers one of these.
func (c *chance) of(l ...string) string { return l[c.below(len(l))] }

// edges are raws at which operations turn.
func edges() []api.Fix {
	return []api.Fix{api.Least, api.Least + 1, -1 << 30, -3 * one, -one - 1, -one, -one + 1, -32768, -7, -3, -2, -1, 0, 1, 2, 3, 5, 7, 32767, 32768, one - 1, one, one + 1, 3 * one, 46341, 1 << 30, api.Most - 1, api.Most}
}

// raw answers a raw: an edge, one of a few bits, or any.
func (c *chance) raw() api.Fix {
	switch c.below(3) {
	case 0:
		return edges()[c.below(len(edges()))]
	case 1:
		return api.Fix(c.below(1<<20) - 1<<19)
	}
	return api.Fix(int32(c.below(1<<31)<<1 | c.below(2)))
}

// vector answers a vector of four such raws.
func (c *chance) vector() api.Vec { return api.Vec{c.raw(), c.raw(), c.raw(), c.raw()} }

// taking is how many vectors an operation takes, and of which Bases.
type taking struct {
	count int
	bases []int
}

// table answers the chapter's table, by the numbers that the chapters give.
func table() map[int]taking {
	m := map[int]taking{20: {1, []int{1}}, 19: {2, []int{1}}, 21: {2, []int{1}}, 17: {3, []int{1}}, 18: {3, []int{1}}, 28: {1, []int{1, 2}}, 33: {2, []int{1, 2, 3}}, 34: {2, []int{1, 2, 3}}, 35: {1, []int{3}}}
	for fn := 1; fn <= 11; fn++ {
		m[fn] = taking{1, []int{1}}
	}
	for fn := 12; fn <= 16; fn++ {
		m[fn] = taking{2, []int{1}}
	}
	for fn := 24; fn <= 32; fn++ {
		if fn != 28 {
			m[fn] = taking{2, []int{1, 2}}
		}
	}
	return m
}

// far are whole numbers far off, some of which are small ones in fewer bits.
func far() []int {
	return []int{math.MaxInt, math.MinInt, 1<<32 + 1, 1<<32 + 24, 1<<32 + 33, 1<<32 + 3, -1 << 32, 257, 256 + 24, 65536 + 1}
}

// P15.1: which operations there are for which Bases, how many vectors they take, and which n.
func TestApplyRefuses(t *testing.T) {
	takes := table()
	taken := 0
	for _, fn := range append(far(), sequence(-3, 60)...) {
		for _, base := range append(far(), sequence(-2, 8)...) {
			for _, n := range append(far(), sequence(-2, 7)...) {
				for count := range 6 {
					l := slices.Repeat([]api.Vec{{one, one, one, one}}, count)
					v, err := sense.Apply(fn, base, n, l...)
					row, is := takes[fn]
					may := is && slices.Contains(row.bases, base) && count == row.count && n >= 1 && n <= 4
					if may {
						taken++
					}
					if may != (err == api.OK) || !may && (err != api.ErrArg || v != api.Vec{}) {
						t.Errorf("Apply(%d, %d, %d, %d vectors): %v, %d", fn, base, n, count, v, err)
					}
				}
			}
		}
	}
	if taken != 4*(12+5+2+2+2*(8+1)+3*2+1) {
		t.Error(taken)
	}
}

// sequence answers the whole numbers from one up to another.
func sequence(from, to int) []int {
	var l []int
	for i := from; i <= to; i++ {
		l = append(l, i)
	}
	return l
}

// applied holds what Apply answers against what is wanted, and asks whether the vectors stay as they are.
func applied(t *testing.T, fn, base, n int, want api.Vec, l ...api.Vec) {
	t.Helper()
	kept := slices.Clone(l)
	v, err := sense.Apply(fn, base, n, l...)
	if err != api.OK || v != want {
		t.Fatalf("Apply(%d, %d, %d, %v): %v, %d; want %v", fn, base, n, kept, v, err, want)
	}
	if !slices.Equal(l, kept) {
		t.Fatalf("Apply(%d, %d, %d, %v) has left %v", fn, base, n, kept, l)
	}
}

// each answers the vector of size n that has number(i) at each place i.
func each(n int, number func(i int) api.Fix) api.Vec {
	var v api.Vec
	for i := range n {
		v[i] = number(i)
	}
	return v
}

// single answers what an operation of floats does to each number alone; nil, if it does not.
func single(fn int) func(api.Fix) api.Fix {
	return map[int]func(api.Fix) api.Fix{
		1: fix.Abs, 2: fix.Sign, 3: fix.Floor, 4: fix.Fract, 5: maths.Sqrt, 6: maths.InvSqrt, 7: maths.Exp2, 8: maths.Log2, 9: maths.Sin, 10: maths.Cos, 28: fix.Neg,
	}[fn]
}

// double answers what an operation of floats does to two numbers; nil, if it does not.
func double(fn int) func(a, b api.Fix) api.Fix {
	return map[int]func(a, b api.Fix) api.Fix{
		12: fix.Min, 13: fix.Max, 14: fix.Mod, 15: maths.Pow, 16: step, 24: fix.Add, 25: fix.Sub, 26: fix.Mul, 27: fix.Div,
	}[fn]
}

func step(a, b api.Fix) api.Fix {
	if b < a {
		return 0
	}
	return one
}

// P15.1: each operation of floats that goes by component, and mix and clamp, with each n.
func TestApplyFloats(t *testing.T) {
	c := chance(1)
	for range 3000 {
		x, y, z := c.vector(), c.vector(), c.vector()
		for n := 1; n <= 4; n++ {
			for fn := range 36 {
				if do := single(fn); do != nil {
					applied(t, fn, 1, n, each(n, func(i int) api.Fix { return do(x[i]) }), x)
				}
				if do := double(fn); do != nil {
					applied(t, fn, 1, n, each(n, func(i int) api.Fix { return do(x[i], y[i]) }), x, y)
				}
			}
			applied(t, 17, 1, n, each(n, func(i int) api.Fix { return fix.Add(x[i], fix.Mul(fix.Sub(y[i], x[i]), z[i])) }), x, y, z)
			applied(t, 18, 1, n, each(n, func(i int) api.Fix { return min(max(x[i], y[i]), z[i]) }), x, y, z)
		}
	}
}

// P15.1: dot, length and normalize of size n; cross of the first three numbers, whatever n is.
func TestApplyWhole(t *testing.T) {
	c := chance(2)
	for range 3000 {
		x, y := c.vector(), c.vector()
		for n := 1; n <= 4; n++ {
			var dot api.Fix
			squares := 0.0
			for i := range n {
				dot = fix.Add(dot, fix.Mul(x[i], y[i]))
				squares += float64(x[i]) * float64(x[i])
			}
			applied(t, 19, 1, n, api.Vec{dot}, x, y)
			applied(t, 20, 1, n, api.Vec{maths.Length(x, n)}, x)
			if near := math.Sqrt(squares); near < float64(api.Most) && math.Abs(near-float64(maths.Length(x, n))) > 2 {
				t.Fatal(x, n)
			}
			length := maths.Length(x, n)
			applied(t, 11, 1, n, each(n, func(i int) api.Fix { return fix.Div(x[i], length) }), x)
			less := func(i, k int) api.Fix { return fix.Sub(fix.Mul(x[i], y[k]), fix.Mul(x[k], y[i])) }
			applied(t, 21, 1, n, api.Vec{less(1, 2), less(2, 0), less(0, 1)}, x, y)
		}
	}
	for n := 1; n <= 4; n++ {
		applied(t, 21, 1, n, numbers(0, 0, 1), numbers(1, 0, 0, 9), numbers(0, 1, 0, 9))
		applied(t, 11, 1, n, api.Vec{}, api.Vec{})
	}
	applied(t, 20, 1, 2, numbers(5), numbers(3, 4, 9, 9))
	applied(t, 19, 1, 3, numbers(32), numbers(1, 2, 3, 9), numbers(4, 5, 6, 9))
}

// P15.1: operations of ints, at both ends of their range and between, with each n.
func TestApplyInts(t *testing.T) {
	whole := map[int]func(a, b int64) int64{
		24: func(a, b int64) int64 { return a + b },
		25: func(a, b int64) int64 { return a - b },
		26: func(a, b int64) int64 { return a * b },
		27: towardsNought,
	}
	wrap := func(n int64) api.Fix { return api.Fix((n%(1<<32)+3<<31)%(1<<32) - 1<<31) }
	c := chance(3)
	ask := func(x, y api.Vec) {
		for n := 1; n <= 4; n++ {
			for fn, do := range whole {
				applied(t, fn, 2, n, each(n, func(i int) api.Fix { return wrap(do(int64(x[i]), int64(y[i]))) }), x, y)
			}
			applied(t, 28, 2, n, each(n, func(i int) api.Fix { return wrap(-int64(x[i])) }), x)
		}
	}
	for _, a := range edges() {
		for _, b := range edges() {
			ask(api.Vec{a, b, a, c.raw()}, api.Vec{b, a, a, c.raw()})
		}
	}
	for range 3000 {
		ask(c.vector(), c.vector())
	}
}

// towardsNought answers a quotient, rounded towards 0 without a rounding of Go's; 0 by 0.
func towardsNought(a, b int64) int64 {
	if b == 0 {
		return 0
	}
	size := uint64(max(a, -a)) / uint64(max(b, -b))
	if (a < 0) != (b < 0) {
		return -int64(size)
	}
	return int64(size)
}

// P15.1: ints as the chapter's words say them, number by number.
func TestApplyIntRows(t *testing.T) {
	const least, most = api.Least, api.Most
	for _, r := range []struct {
		fn         int
		a, b, want api.Fix
	}{
		{24, most, 1, least}, {24, least, -1, most}, {24, least, least, 0}, {25, least, 1, most}, {25, 0, least, least}, {25, most, -1, least}, {26, 65536, 65536, 0}, {26, 65536, 32768, least}, {26, most, most, 1}, {26, least, -1, least}, {26, 3, 32768, 98304},
		{27, 7, 2, 3}, {27, -7, 2, -3}, {27, 7, -2, -3}, {27, -7, -2, 3}, {27, 7, 0, 0}, {27, least, 0, 0}, {27, 0, 0, 0}, {27, least, -1, least}, {27, least, 1, least}, {27, least, least, 1}, {27, most, least, 0}, {27, least, most, -1}, {27, 1, 65536, 0},
	} {
		applied(t, r.fn, 2, 1, api.Vec{r.want}, api.Vec{r.a, 9, 9, 9}, api.Vec{r.b, 9, 9, 9})
	}
	applied(t, 28, 2, 4, api.Vec{least, -most, 0, 1}, api.Vec{least, most, 0, -1})
	applied(t, 28, 1, 4, api.Vec{most, -most, 0, 1}, api.Vec{least, most, 0, -1})
}

// P15.1: comparisons ask the first numbers alone, of floats and ints alike, whatever n is.
func TestApplyOrder(t *testing.T) {
	c := chance(4)
	for _, a := range edges() {
		for _, b := range edges() {
			x, y := c.vector(), c.vector()
			x[0], y[0] = a, b
			for fn, holds := range map[int]bool{29: a < b, 30: a > b, 31: a <= b, 32: a >= b} {
				for _, base := range []int{1, 2} {
					for n := 1; n <= 4; n++ {
						applied(t, fn, base, n, truth(holds), x, y)
					}
				}
			}
		}
	}
}

// truth answers the bool of what holds or does not: raw 1 or 0.
func truth(holds bool) api.Vec {
	if holds {
		return api.Vec{1}
	}
	return api.Vec{}
}

// P15.1: FnSame and FnOther ask all numbers up to n, and none behind, of all Bases; FnNot asks the first number.
func TestApplySame(t *testing.T) {
	c := chance(5)
	for range 500 {
		x := c.vector()
		for base := 1; base <= 3; base++ {
			for n := 1; n <= 4; n++ {
				applied(t, 33, base, n, truth(true), x, x)
				applied(t, 34, base, n, truth(false), x, x)
				for place := range 4 {
					y := x
					y[place] ^= 1 << c.below(31)
					applied(t, 33, base, n, truth(place >= n), x, y)
					applied(t, 34, base, n, truth(place < n), x, y)
				}
			}
		}
	}
	for _, a := range edges() {
		for n := 1; n <= 4; n++ {
			applied(t, 35, 3, n, truth(a == 0), api.Vec{a, 0, 1, 0})
			applied(t, 35, 3, n, truth(a == 0), api.Vec{a, 1, 0, 1})
		}
	}
}

// P15.1: numbers behind n play no part, but in cross the first three do.
func TestApplyBehind(t *testing.T) {
	c := chance(6)
	for fn, row := range table() {
		for _, base := range row.bases {
			for n := 1; n <= 4; n++ {
				for range 40 {
					a, b := make([]api.Vec, row.count), make([]api.Vec, row.count)
					for i := range a {
						a[i], b[i] = c.vector(), c.vector()
						count := n
						if fn == 21 {
							count = 3
						}
						copy(b[i][:count], a[i][:count])
					}
					x, _ := sense.Apply(fn, base, n, a...)
					y, _ := sense.Apply(fn, base, n, b...)
					if x != y {
						t.Fatalf("Apply(%d, %d, %d): of %v %v, of %v %v", fn, base, n, a, x, b, y)
					}
				}
			}
		}
	}
}
