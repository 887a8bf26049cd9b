package vm_test

import (
	"math"
	"slices"
	"testing"

	"paintbox/api"
	"paintbox/code"
	"paintbox/fix"
	"paintbox/maths"
	"paintbox/sense"
	"paintbox/vm"
)

// taking is how many vectors a function takes, and of which bases.
type taking struct {
	count int
	bases []int
}

// table answers what chapter 16 says of the functions, by their numbers.
func table() map[int]taking {
	m := map[int]taking{20: {1, []int{1}}, 19: {2, []int{1}}, 21: {2, []int{1}}, 17: {3, []int{1}}, 18: {3, []int{1}}, 28: {1, []int{1, 2}}, 33: {2, []int{1, 2, 3}}, 34: {2, []int{1, 2, 3}}, 35: {1, []int{3}}}
	for fn := 1; fn <= 11; fn++ {
		m[fn] = taking{1, []int{1}}
	}
	for fn := 12; fn <= 16; fn++ {
		m[fn] = taking{2, []int{1}}
	}
	for fn := 24; fn <= 32; fn++ {
		if fn != 28 {
			m[fn] = taking{2, []int{1, 2}}
		}
	}
	return m
}

// P18.3: which functions there are for which bases, and which n.
func TestDoRefuses(t *testing.T) {
	takes := table()
	taken := 0
	v := numbers(1, 2, 3, 4)
	for _, fn := range append(far(), sequence(-3, 60)...) {
		for _, base := range append(far(), sequence(-2, 8)...) {
			for _, n := range append(far(), sequence(-2, 7)...) {
				x, err := vm.Do(fn, base, n, v, v, v)
				may := slices.Contains(takes[fn].bases, base) && n >= 1 && n <= 4
				if may {
					taken++
				}
				if may != (err == api.OK) || !may && (err != api.ErrArg || x != api.Vec{}) {
					t.Errorf("Do(%d, %d, %d): %v, %d", fn, base, n, x, err)
				}
			}
			if args := code.Args(fn, base); (args == 0) != !slices.Contains(takes[fn].bases, base) || args > 0 && args != takes[fn].count {
				t.Errorf("Args(%d, %d): %d", fn, base, args)
			}
		}
	}
	if taken != 4*(12+5+2+2+2*(8+1)+3*2+1) {
		t.Error(taken)
	}
}

// does asks whether Do answers this, whatever stands in vectors that the function does not take; and what an OpDo with such registers leaves.
func does(t *testing.T, fn, base, n int, want api.Vec, l ...api.Vec) {
	t.Helper()
	for _, rest := range []api.Vec{{}, numbers(7, -7, 0.5, 3)} {
		var a [3]api.Vec
		for k := range a {
			a[k] = rest
		}
		copy(a[:], l)
		if v, err := vm.Do(fn, base, n, a[0], a[1], a[2]); err != api.OK || v != want {
			t.Fatalf("Do(%d, %d, %d, %v): %v, %d; want %v", fn, base, n, a, v, err, want)
		}
	}
	c := bare(fragment, 4)
	i := do(3, fn, base, n)
	for k, v := range l {
		c.Instrs = append(c.Instrs, constant(k, v))
		*[]*int{&i.A, &i.B, &i.C}[k] = k
	}
	c.Instrs = append(c.Instrs, i, paint(3))
	if x, err := vm.Run(c, api.Env{}); err != api.OK || x.Color != want {
		t.Fatalf("%v: %v, %d; want %v", c.Instrs, x.Color, err, want)
	}
}

// P18.3: the chapter's examples, and each function of floats with values that were worked out by hand.
func TestDoFloatRows(t *testing.T) {
	const most, least = api.Most, api.Least
	does(t, 27, 2, 1, api.Vec{3}, api.Vec{7}, api.Vec{2})
	does(t, 27, 1, 1, numbers(3.5), numbers(7), numbers(2))
	for _, r := range []struct {
		fn, n int
		want  api.Vec
		l     []api.Vec
	}{
		{1, 3, api.Vec{98304, 2 * one, most}, []api.Vec{{-98304, 2 * one, least, -9}}},
		{2, 3, numbers(-1, 0, 1), []api.Vec{{-5, 0, 5, 9}}},
		{3, 4, api.Vec{-one, one, 2 * one, -one}, []api.Vec{{-32768, 98304, 2 * one, -1}}},
		{4, 4, api.Vec{49152, 32768, 0, 65535}, []api.Vec{{-16384, 98304, 2 * one, -1}}},
		{5, 3, api.Vec{92681, 0, 2 * one}, []api.Vec{numbers(2, -1, 4, 9)}},
		{6, 2, api.Vec{32768, most}, []api.Vec{numbers(4, 0, 4, 4)}},
		{7, 4, api.Vec{one, 92681, most, 0}, []api.Vec{numbers(0, 0.5, 15, -31)}},
		{8, 4, api.Vec{0, one, 103872, least}, []api.Vec{numbers(1, 2, 3, 0)}},
		{9, 2, api.Vec{0, one}, []api.Vec{{0, 102944, 102944, 1}}},
		{10, 1, numbers(1), []api.Vec{{}}},
		{10, 3, numbers(1, 1, 1), []api.Vec{{}}},
		{11, 2, api.Vec{39322, 52429}, []api.Vec{numbers(3, 4, 12, 9)}},
		{11, 4, api.Vec{}, []api.Vec{{}}},
		{12, 3, numbers(1, 3, -2), []api.Vec{numbers(1, 5, -2, 0), numbers(2, 3, -1, 0)}},
		{13, 3, numbers(2, 5, -1), []api.Vec{numbers(1, 5, -2, 0), numbers(2, 3, -1, 9)}},
		{14, 2, numbers(2, 1), []api.Vec{numbers(-1, 7, 1), numbers(3, 2, 1)}},
		{15, 3, api.Vec{524288, 196607, 0}, []api.Vec{numbers(2, 9, 0, 2), numbers(3, 0.5, 0, 2)}},
		{16, 3, numbers(0, 1, 1), []api.Vec{numbers(1, 1, 1, 0), numbers(0, 1, 2, 0)}},
		{17, 2, numbers(2, 7), []api.Vec{numbers(1, 5, 1), numbers(3, 9, 1), numbers(0.5, 0.5, 1)}},
		{18, 3, numbers(2, 0, 1), []api.Vec{numbers(5, -5, 1, 1), numbers(0, 0, 0, 0), numbers(2, 2, 2, 2)}},
		{18, 1, numbers(1), []api.Vec{numbers(5), numbers(3), numbers(1)}},
		{19, 3, numbers(32), []api.Vec{numbers(1, 2, 3, 9), numbers(4, 5, 6, 9)}},
		{19, 1, numbers(4), []api.Vec{numbers(1, 2, 3, 9), numbers(4, 5, 6, 9)}},
		{20, 2, numbers(5), []api.Vec{numbers(3, 4, 12, 9)}},
		{20, 3, numbers(13), []api.Vec{numbers(3, 4, 12, 9)}},
		{21, 1, numbers(0, 0, 1), []api.Vec{numbers(1, 0, 0, 9), numbers(0, 1, 0, 9)}},
		{21, 2, numbers(0, 0, 1), []api.Vec{numbers(1, 0, 0, 9), numbers(0, 1, 0, 9)}},
		{21, 3, numbers(-3, 6, -3), []api.Vec{numbers(1, 2, 3, 9), numbers(4, 5, 6, 9)}},
		{21, 4, numbers(-3, 6, -3), []api.Vec{numbers(1, 2, 3, 9), numbers(4, 5, 6, 9)}},
		{24, 3, api.Vec{3 * one, most, least}, []api.Vec{{one, most, least, 1}, {2 * one, 1, -1, 1}}},
		{25, 3, api.Vec{-one, most, least}, []api.Vec{{one, most, least, 1}, {2 * one, -1, 1, 1}}},
		{26, 4, api.Vec{2, -1, most, 6 * one}, []api.Vec{{3, -3, most, 2 * one}, {32768, 32768, 2 * one, 3 * one}}},
		{27, 4, api.Vec{21845, most, least, 0}, []api.Vec{{one, 5, -5, 0}, {3 * one, 0, 0, 0}}},
		{28, 4, api.Vec{most, -most, 0, one}, []api.Vec{{least, most, 0, -one}}},
	} {
		does(t, r.fn, 1, r.n, r.want, r.l...)
	}
}

// P18.3: each function of whole numbers with values that were worked out by hand.
func TestDoIntRows(t *testing.T) {
	const least, most = api.Least, api.Most
	for _, r := range []struct {
		fn         int
		a, b, want api.Fix
	}{
		{24, 1, 2, 3}, {24, most, 1, least}, {24, least, -1, most}, {24, least, least, 0},
		{25, 1, 2, -1}, {25, least, 1, most}, {25, 0, least, least}, {25, most, -1, least},
		{26, 3, -4, -12}, {26, 65536, 65536, 0}, {26, 65536, 32768, least}, {26, most, most, 1}, {26, least, -1, least}, {26, 3, 32768, 98304},
		{27, 7, 2, 3}, {27, -7, 2, -3}, {27, 7, -2, -3}, {27, -7, -2, 3}, {27, 7, 0, 0}, {27, least, 0, 0}, {27, 0, 0, 0}, {27, least, -1, least}, {27, least, 1, least}, {27, least, least, 1}, {27, most, least, 0}, {27, least, most, -1}, {27, 1, 65536, 0},
		{29, 1, 2, 1}, {29, 2, 1, 0}, {29, 1, 1, 0}, {30, 1, 2, 0}, {30, 2, 1, 1}, {30, 1, 1, 0}, {31, 1, 2, 1}, {31, 2, 1, 0}, {31, 1, 1, 1}, {32, 1, 2, 0}, {32, 2, 1, 1}, {32, 1, 1, 1}, {29, least, most, 1}, {30, most, least, 1}, {31, most, least, 0}, {32, least, most, 0},
		{33, 5, 5, 1}, {33, 5, 6, 0}, {34, 5, 5, 0}, {34, 5, 6, 1},
	} {
		does(t, r.fn, 2, 1, api.Vec{r.want}, api.Vec{r.a, 9, 9, 9}, api.Vec{r.b, 8, 7, 6})
	}
	does(t, 28, 2, 4, api.Vec{least, -most, 0, 1}, api.Vec{least, most, 0, -1})
	does(t, 28, 2, 2, api.Vec{-5, 5}, api.Vec{5, -5, 5, 5})
	does(t, 24, 2, 4, api.Vec{11, 22, 33, 44}, api.Vec{1, 2, 3, 4}, api.Vec{10, 20, 30, 40})
}

// each answers the vector of size n that has number(i) at each place i.
func each(n int, number func(i int) api.Fix) api.Vec {
	var v api.Vec
	for i := range n {
		v[i] = number(i)
	}
	return v
}

// single answers what a function of floats does to each number alone; nil, if it does not.
func single(fn int) func(api.Fix) api.Fix {
	return map[int]func(api.Fix) api.Fix{
		1: fix.Abs, 2: fix.Sign, 3: fix.Floor, 4: fix.Fract, 5: maths.Sqrt, 6: maths.InvSqrt, 7: maths.Exp2, 8: maths.Log2, 9: maths.Sin, 10: maths.Cos, 28: fix.Neg,
	}[fn]
}

// double answers what a function of floats does to two numbers; nil, if it does not.
func double(fn int) func(a, b api.Fix) api.Fix {
	return map[int]func(a, b api.Fix) api.Fix{
		12: fix.Min, 13: fix.Max, 14: fix.Mod, 15: maths.Pow, 16: step, 24: fix.Add, 25: fix.Sub, 26: fix.Mul, 27: fix.Div,
	}[fn]
}

func step(a, b api.Fix) api.Fix {
	if b < a {
		return 0
	}
	return one
}

// P18.3: functions of floats by component, with each n.
func TestDoFloats(t *testing.T) {
	c := chance(1)
	for range 500 {
		x, y, z := c.vector(), c.vector(), c.vector()
		for n := 1; n <= 4; n++ {
			for fn := range 36 {
				if do := single(fn); do != nil {
					does(t, fn, 1, n, each(n, func(i int) api.Fix { return do(x[i]) }), x)
				}
				if do := double(fn); do != nil {
					does(t, fn, 1, n, each(n, func(i int) api.Fix { return do(x[i], y[i]) }), x, y)
				}
			}
			does(t, 17, 1, n, each(n, func(i int) api.Fix { return fix.Add(x[i], fix.Mul(fix.Sub(y[i], x[i]), z[i])) }), x, y, z)
			does(t, 18, 1, n, each(n, func(i int) api.Fix { return min(max(x[i], y[i]), z[i]) }), x, y, z)
		}
	}
}

// P18.3: dot, length and normalize of the first n numbers; cross of the first three, whatever n is.
func TestDoWhole(t *testing.T) {
	c := chance(2)
	for range 1000 {
		x, y := c.vector(), c.vector()
		for n := 1; n <= 4; n++ {
			var dot api.Fix
			squares := 0.0
			for i := range n {
				dot = fix.Add(dot, fix.Mul(x[i], y[i]))
				squares += float64(x[i]) * float64(x[i])
			}
			length := maths.Length(x, n)
			if near := math.Sqrt(squares); near < float64(api.Most) && math.Abs(near-float64(length)) > 2 {
				t.Fatal(x, n)
			}
			does(t, 19, 1, n, api.Vec{dot}, x, y)
			does(t, 20, 1, n, api.Vec{length}, x)
			does(t, 11, 1, n, each(n, func(i int) api.Fix { return fix.Div(x[i], length) }), x)
			less := func(i, k int) api.Fix { return fix.Sub(fix.Mul(x[i], y[k]), fix.Mul(x[k], y[i])) }
			does(t, 21, 1, n, api.Vec{less(1, 2), less(2, 0), less(0, 1)}, x, y)
		}
	}
}

// P18.3: functions of whole numbers, at both ends of their range and between, with each n.
func TestDoInts(t *testing.T) {
	whole := map[int]func(a, b int64) int64{
		24: func(a, b int64) int64 { return a + b },
		25: func(a, b int64) int64 { return a - b },
		26: func(a, b int64) int64 { return a * b },
		27: towardsNought,
	}
	wrap := func(n int64) api.Fix { return api.Fix((n%(1<<32)+3<<31)%(1<<32) - 1<<31) }
	c := chance(3)
	ask := func(x, y api.Vec) {
		for n := 1; n <= 4; n++ {
			for fn, do := range whole {
				does(t, fn, 2, n, each(n, func(i int) api.Fix { return wrap(do(int64(x[i]), int64(y[i]))) }), x, y)
			}
			does(t, 28, 2, n, each(n, func(i int) api.Fix { return wrap(-int64(x[i])) }), x)
		}
	}
	for _, a := range edges() {
		for _, b := range edges() {
			ask(api.Vec{a, b, a, c.raw()}, api.Vec{b, a, a, c.raw()})
		}
	}
	for range 500 {
		ask(c.vector(), c.vector())
	}
}

// towardsNought answers a quotient, rounded towards 0 without a rounding of Go's; 0 by 0.
func towardsNought(a, b int64) int64 {
	if b == 0 {
		return 0
	}
	size := uint64(max(a, -a)) / uint64(max(b, -b))
	if (a < 0) != (b < 0) {
		return -int64(size)
	}
	return int64(size)
}

// truth answers the bool of what holds or does not: raw 1 or 0.
func truth(holds bool) api.Vec {
	if holds {
		return api.Vec{1}
	}
	return api.Vec{}
}

// P18.3: comparisons ask the first numbers alone, of floats and ints alike, whatever n is.
func TestDoOrder(t *testing.T) {
	c := chance(4)
	for _, a := range edges() {
		for _, b := range edges() {
			x, y := c.vector(), c.vector()
			x[0], y[0] = a, b
			for fn, holds := range map[int]bool{29: a < b, 30: a > b, 31: a <= b, 32: a >= b} {
				for _, base := range []int{1, 2} {
					for n := 1; n <= 4; n++ {
						does(t, fn, base, n, truth(holds), x, y)
					}
				}
			}
		}
	}
}

// P18.3: FnSame and FnOther ask all numbers up to n, and none behind, of all bases; FnNot asks the first number.
func TestDoSame(t *testing.T) {
	c := chance(5)
	for range 200 {
		x := c.vector()
		for base := 1; base <= 3; base++ {
			for n := 1; n <= 4; n++ {
				does(t, 33, base, n, truth(true), x, x)
				does(t, 34, base, n, truth(false), x, x)
				for place := range 4 {
					y := x
					y[place] ^= 1 << c.below(31)
					does(t, 33, base, n, truth(place >= n), x, y)
					does(t, 34, base, n, truth(place < n), x, y)
				}
			}
		}
	}
	for _, a := range edges() {
		for n := 1; n <= 4; n++ {
			does(t, 35, 3, n, truth(a == 0), api.Vec{a, 0, 1, 0})
			does(t, 35, 3, n, truth(a == 0), api.Vec{a, 1, 0, 1})
		}
	}
}

// P18.3: every function, base and n against what chapter 15 says it does; and the numbers behind n play no part, but the first three of cross.
func TestDoBehind(t *testing.T) {
	c := chance(6)
	for fn, row := range table() {
		for _, base := range row.bases {
			for n := 1; n <= 4; n++ {
				for range 40 {
					a, b := c.vectors(row.count), c.vectors(row.count)
					for i := range a {
						count := n
						if fn == 21 {
							count = 3
						}
						copy(b[i][:count], a[i][:count])
					}
					want, err := sense.Apply(fn, base, n, a...)
					if err != api.OK {
						t.Fatal(fn, base, n)
					}
					does(t, fn, base, n, want, a...)
					does(t, fn, base, n, want, b...)
				}
			}
		}
	}
}
