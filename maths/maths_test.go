package maths_test

import (
	"math"
	"math/bits"
	"testing"

	"paintbox/api"
	"paintbox/fix"
	"paintbox/maths"
)

const (
	one   = api.One
	most  = api.Most
	least = api.Least
)

// edges are the numbers about which something changes.
func edges() []api.Fix {
	list := []api.Fix{least, least + 1, -98304, -32768, 0, 32768, 98304, most - 1, most}
	for i := range 31 {
		p := api.Fix(1) << i
		list = append(list, p-1, p, p+1, -p-1, -p, 1-p)
	}
	return list
}

// random answers a function that tells numbers of 64 bits, always the same ones.
func random() func() uint64 {
	state := uint64(11)
	return func() uint64 {
		state = state*6364136223846793005 + 1442695040888963407
		return state ^ state>>29
	}
}

// some are the edges and n numbers of all sizes.
func some(n int) []api.Fix {
	list, next := edges(), random()
	for range n {
		list = append(list, api.Fix(int32(next()>>32))>>(next()>>59))
	}
	return list
}

func wantFix(t *testing.T, what string, x, got, want api.Fix) {
	t.Helper()
	if got != want {
		t.Fatalf("%s of raw %d: got raw %d, want %d", what, x, got, want)
	}
}

// isRoot tells whether r is the greatest whole number whose square is not above n.
func isRoot(n uint64, r uint32) bool {
	more := uint64(r) + 1
	over, square := bits.Mul64(more, more)
	return uint64(r)*uint64(r) <= n && (over > 0 || square > n)
}

// P4.1: Root of what is small, of squares, and of what lies beside them.
func TestRoot(t *testing.T) {
	for _, c := range []struct {
		n    uint64
		want uint32
	}{
		{0, 0}, {1, 1}, {2, 1}, {3, 1}, {4, 2}, {5, 2}, {8, 2}, {9, 3}, {15, 3}, {16, 4}, {17, 4}, {24, 4}, {25, 5},
		{1<<32 - 1, 1<<16 - 1}, {1 << 32, 1 << 16}, {1<<62 - 1, 1<<31 - 1}, {1 << 62, 1 << 31}, {1<<62 + 1, 1 << 31},
		{18446744065119617025, 1<<32 - 1}, {18446744065119617024, 1<<32 - 2}, {math.MaxUint64 - 1, 1<<32 - 1}, {math.MaxUint64, 1<<32 - 1},
	} {
		if got := maths.Root(c.n); got != c.want {
			t.Errorf("Root(%d): got %d, want %d", c.n, got, c.want)
		}
	}
	for n := range uint64(70000) {
		if got := maths.Root(n); !isRoot(n, got) {
			t.Fatalf("Root(%d): got %d", n, got)
		}
	}
}

// P4.1: Root of squares of all sizes, of one less and of one more, and of any number.
func TestRootOfSquares(t *testing.T) {
	next := random()
	for range 50000 {
		r := next()>>32>>(next()>>59) | 1
		for _, n := range []uint64{r*r - 1, r * r, r*r + 1, next() >> (next() >> 58)} {
			if got := maths.Root(n); !isRoot(n, got) {
				t.Fatalf("Root(%d): got %d", n, got)
			}
		}
		if got := maths.Root(r * r); uint64(got) != r {
			t.Fatalf("Root of %d, squared: got %d", r, got)
		}
	}
}

// P4.1: Sqrt; 0 at 0 and below it.
func TestSqrt(t *testing.T) {
	for _, c := range []struct{ x, want api.Fix }{
		{2 * one, 92681}, {-one, 0}, {0, 0}, {-1, 0}, {least, 0}, {1, 256}, {2, 362}, {3, 443}, {4, 512},
		{one, one}, {one - 1, 65535}, {one + 1, 65536}, {4 * one, 2 * one}, {9 * one, 3 * one}, {one / 4, one / 2},
		{most, 11863283}, {most - 1, 11863283}, {1 << 30, 8388608},
	} {
		wantFix(t, "Sqrt", c.x, maths.Sqrt(c.x), c.want)
	}
	for _, x := range some(20000) {
		got := maths.Sqrt(x)
		if x <= 0 && got != 0 || x > 0 && (got < 0 || !isRoot(uint64(x)<<16, uint32(got))) {
			t.Fatalf("Sqrt of raw %d: got raw %d", x, got)
		}
	}
}

// P4.1: InvSqrt; Most at 0 and below it.
func TestInvSqrt(t *testing.T) {
	for _, c := range []struct{ x, want api.Fix }{
		{4 * one, 32768}, {0, most}, {-1, most}, {-one, most}, {least, most}, {1, 1 << 24}, {2, 11863283}, {3, 9686330}, {4, 1 << 23},
		{one, one}, {one - 1, one}, {one + 1, 65535}, {2 * one, 46340}, {9 * one, 21845}, {one / 4, 2 * one},
		{most, 362}, {most - 1, 362}, {1 << 30, 512},
	} {
		wantFix(t, "InvSqrt", c.x, maths.InvSqrt(c.x), c.want)
	}
	for _, x := range some(20000) {
		got := maths.InvSqrt(x)
		if x <= 0 && got != most || x > 0 && (got < 0 || !isRoot(1<<48/uint64(x), uint32(got))) {
			t.Fatalf("InvSqrt of raw %d: got raw %d", x, got)
		}
	}
}

// table is T(i) at i; none is at 0.
func table() []int64 {
	return []int64{0,
		1518500250, 1276901417, 1170923762, 1121280436, 1097253708, 1085434106, 1079572136, 1076653033,
		1075196443, 1074468888, 1074105294, 1073923544, 1073832680, 1073787251, 1073764537, 1073753181,
	}
}

// exp2 is Exp2 in the words of the chapter.
func exp2(x api.Fix) api.Fix {
	a := int64(x)
	f := (a%65536 + 65536) % 65536
	n := (a - f) / 65536
	r := int64(1) << 30
	for i := 1; i <= 16; i++ {
		if f/(1<<(16-i))%2 == 1 {
			r = r * table()[i] >> 30
		}
	}
	switch {
	case n >= 15:
		return most
	case n < -30:
		return 0
	}
	return api.Fix(r >> (14 - n))
}

// P4.2: Exp2 at its ends and about them, at whole numbers, and at each of its digits.
func TestExp2(t *testing.T) {
	for _, c := range []struct{ x, want api.Fix }{
		{0, one}, {32768, 92681}, {-one, 32768}, {-1, 65535}, {1, 65536}, {one, 2 * one}, {one - 1, 131070}, {16384, 77935}, {-32768, 46340},
		{15 * one, most}, {15*one + 1, most}, {15*one - 1, 2147460927}, {16 * one, most}, {14 * one, 1 << 30}, {14*one - 1, 1073730463},
		{most, most}, {most - 1, most},
		{-16 * one, 1}, {-16*one - 1, 0}, {-15*one - 1, 1}, {-15 * one, 2}, {-30 * one, 0}, {-30*one - 1, 0}, {-30*one + 1, 0}, {-31 * one, 0}, {-31*one - 1, 0},
		{least, 0}, {least + 1, 0},
	} {
		wantFix(t, "Exp2", c.x, maths.Exp2(c.x), c.want)
	}
	for i := 1; i <= 16; i++ {
		// At 14 all bits of the power are to be seen.
		x := 14*one + 1<<(16-i)
		wantFix(t, "Exp2", x, maths.Exp2(x), api.Fix(table()[i]))
	}
}

// P4.2: Exp2 in the words of the chapter: all parts of a whole number, at each power that is told.
func TestExp2Means(t *testing.T) {
	for f := range one {
		for _, n := range []api.Fix{14, 13, 0, -1, -2, -16, -17} {
			x := n*one + f
			wantFix(t, "Exp2", x, maths.Exp2(x), exp2(x))
		}
	}
	for _, x := range some(50000) {
		wantFix(t, "Exp2", x, maths.Exp2(x), exp2(x))
	}
	for x := -33 * one; x < 17*one; x += 97 {
		wantFix(t, "Exp2", x, maths.Exp2(x), exp2(x))
	}
}

// log2 is Log2 in the words of the chapter.
func log2(x api.Fix) api.Fix {
	if x <= 0 {
		return least
	}
	a, e := int64(x), int64(0)
	for int64(1)<<(e+1) <= a {
		e++
	}
	m, d := int64(1)<<(30-e)*a, int64(0)
	for range 16 {
		m = m * m >> 30
		d = 2 * d
		if m >= 1<<31 {
			m = m >> 1
			d = d + 1
		}
	}
	return api.Fix(65536*(e-16) + d)
}

// P4.2: Log2; Least at 0 and below it.
func TestLog2(t *testing.T) {
	for _, c := range []struct{ x, want api.Fix }{
		{one, 0}, {2 * one, one}, {3 * one, 103872}, {0, least}, {-1, least}, {-one, least}, {least, least},
		{1, -16 * one}, {2, -15 * one}, {3, -944704}, {4, -14 * one}, {one / 2, -one}, {one - 1, -2}, {one + 1, 1},
		{1 << 30, 14 * one}, {1<<30 - 1, 14*one - 1}, {most, 15*one - 1}, {most - 1, 15*one - 1},
		// The first one's square comes to 2 just so, in 30 bits behind the point.
		{1518500250, 14*one + 32768}, {1518500249, 14*one + 32767},
	} {
		wantFix(t, "Log2", c.x, maths.Log2(c.x), c.want)
	}
	for x := range api.Fix(200000) {
		wantFix(t, "Log2", x, maths.Log2(x), log2(x))
	}
	for _, x := range some(50000) {
		wantFix(t, "Log2", x, maths.Log2(x), log2(x))
	}
}

// P4.2: Pow, which is 0 for all numbers that are not above 0.
func TestPow(t *testing.T) {
	for _, c := range []struct{ x, y, want api.Fix }{
		{2 * one, 3 * one, 8 * one}, {0, 0, 0}, {9 * one, 32768, 196607}, {one, most, one}, {one, least, one}, {one, 0, one},
		{0, one, 0}, {0, -one, 0}, {-1, 0, 0}, {-one, 2 * one, 0}, {least, least, 0}, {least, most, 0}, {1, 0, one}, {most, 0, one},
		{2 * one, -one, 32768}, {2 * one, 15 * one, most}, {2 * one, 14 * one, 1 << 30}, {2 * one, -16 * one, 1}, {2 * one, -31 * one, 0},
		{one / 2, one, one / 2}, {one / 2, -3 * one, 8 * one}, {most, most, most}, {most, least, 0}, {1, most, 0}, {1, least, most}, {1, one, 1}, {4 * one, one / 2, 2 * one},
	} {
		wantFix(t, "Pow", c.x, maths.Pow(c.x, c.y), c.want)
	}
	list := some(500)
	for _, x := range list {
		for _, y := range list {
			var want api.Fix
			if x > 0 {
				want = exp2(fix.Mul(y, log2(x)))
			}
			wantFix(t, "Pow", x, maths.Pow(x, y), want)
		}
	}
}

// sine is the sine of a phase in the words of the chapter.
func sine(p int64) api.Fix {
	q, r := p/(1<<30), p%(1<<30)
	if q == 1 || q == 3 {
		r = 1<<30 - r
	}
	s := (r * r) >> 30
	y := int64(172272)
	y = 5026995 - ((y * s) >> 30)
	y = 85569306 - ((y * s) >> 30)
	y = 693598668 - ((y * s) >> 30)
	y = 1686629713 - ((y * s) >> 30)
	z := (((y * r) >> 30) + 1<<13) >> 14
	if z > 1<<16 {
		z = 1 << 16
	}
	if q == 2 || q == 3 {
		return api.Fix(-z)
	}
	return api.Fix(z)
}

// phase is the phase of x, turned on by more, in the words of the chapter.
func phase(x api.Fix, more int64) int64 {
	const turn = 1 << 32
	p := (int64(x) * 683565276) >> 16
	return ((p%turn+turn)%turn + more) % turn
}

// P4.3: Sin and Cos about the quarters of a turn, and at the ends.
func TestSinCos(t *testing.T) {
	for _, c := range []struct{ x, sin, cos api.Fix }{
		{0, 0, one}, {1, 1, one}, {-1, -1, one}, {102944, one, 0}, {102943, one, 1}, {102945, one, -1}, {-102944, -one, 0}, {-102943, -one, 1},
		{205887, 0, -one}, {205888, -1, -one}, {205886, 1, -one}, {-205887, 0, -one}, {308831, -one, 0}, {-308831, one, 0},
		{411774, -1, one}, {411775, 0, one}, {-411775, 0, one}, {one, 55147, 35409}, {-one, -55147, 35409}, {2 * one, 59592, -27273}, {34315, 32768, 56756},
	} {
		wantFix(t, "Sin", c.x, maths.Sin(c.x), c.sin)
		wantFix(t, "Cos", c.x, maths.Cos(c.x), c.cos)
	}
}

// P4.3: Sin and Cos in the words of the chapter: each angle of some turns, and numbers of all sizes.
func TestSinCosMeans(t *testing.T) {
	list := some(50000)
	for x := api.Fix(-500000); x <= 500000; x++ {
		list = append(list, x)
	}
	for _, x := range list {
		wantFix(t, "Sin", x, maths.Sin(x), sine(phase(x, 0)))
		wantFix(t, "Cos", x, maths.Cos(x), sine(phase(x, 1<<30)))
	}
}

// sizes are those that Length and Normalize may be handed, each with how many numbers it means.
func sizes() [][2]int {
	return [][2]int{
		{0, 0}, {1, 1}, {2, 2}, {3, 3}, {4, 4}, {5, 4}, {6, 4}, {1 << 32, 4}, {1<<32 + 1, 4}, {math.MaxInt, 4},
		{-1, 0}, {-2, 0}, {-1 << 32, 0}, {1 - 1<<32, 0}, {math.MinInt, 0},
	}
}

// P4.4: Length of ordinary vectors, and of those whose squares are greatest.
func TestLength(t *testing.T) {
	for _, c := range []struct {
		what string
		v    api.Vec
		n    int
		want api.Fix
	}{
		{"of two", api.Vec{3 * one, 4 * one}, 2, 5 * one},
		{"of two below 0", api.Vec{-3 * one, -4 * one}, 2, 5 * one},
		{"with more behind", api.Vec{3 * one, 4 * one, 7, 9 * one}, 2, 5 * one},
		{"of one", api.Vec{-7, one}, 1, 7},
		{"of three", api.Vec{2 * one, 3 * one, 6 * one, 1}, 3, 7 * one},
		{"of four", api.Vec{one, one, one, -one}, 4, 2 * one},
		{"of ones", api.Vec{one, one, one}, 3, 113511},
		{"of the least raws", api.Vec{1, 1}, 2, 1},
		{"of three least raws", api.Vec{1, 1, 1, 0}, 4, 1},
		{"of nothing", api.Vec{}, 4, 0},
		{"with nothing ahead", api.Vec{0, 0, 0, 1}, 3, 0},
		{"of Most", api.Vec{most}, 1, most},
		{"of Most and a raw", api.Vec{most, 1}, 2, most},
		{"of Most and 65535 raws", api.Vec{most, 65535}, 2, most},
		{"of Most and One", api.Vec{most, one}, 2, most},
		{"just below", api.Vec{most - 1, 65535}, 2, most - 1},
		{"just there", api.Vec{most - 1, one}, 2, most},
		{"of Least", api.Vec{least}, 1, most},
		{"of Least and 1", api.Vec{least + 1}, 1, most},
		{"of two Leasts", api.Vec{least, least}, 2, most},
		{"of three Leasts", api.Vec{least, least, least}, 3, most},
		{"of four Leasts", api.Vec{least, least, least, least}, 4, most},
		{"of four Mosts", api.Vec{most, most, most, most}, 4, most},
		{"of halves", api.Vec{1 << 30, 1 << 30, 1 << 30, 1 << 30}, 4, most},
		{"of less than halves", api.Vec{1<<30 - 1, 1<<30 - 1, 1<<30 - 1, 1<<30 - 1}, 4, most - 1},
	} {
		if got := maths.Length(c.v, c.n); got != c.want {
			t.Errorf("Length %s: got raw %d, want %d", c.what, got, c.want)
		}
	}
}

// squares is the sum of the squares of these raws, in two words.
func squares(raws []api.Fix) (over, sum uint64) {
	for _, x := range raws {
		var carry uint64
		sum, carry = bits.Add64(sum, uint64(int64(x)*int64(x)), 0)
		over += carry
	}
	return over, sum
}

// vectors are n of numbers of all sizes, those of the edges among them.
func vectors(n int) []api.Vec {
	list, numbers, next := make([]api.Vec, n), some(1000), random()
	for i := range list {
		for k := range list[i] {
			list[i][k] = numbers[next()>>33%uint64(len(numbers))]
		}
	}
	return append(list, api.Vec{}, api.Vec{0, 0, 0, 5}, api.Vec{0, 0, -5}, api.Vec{least, least, least, least}, api.Vec{most, most, most, most}, api.Vec{most, least})
}

// P4.4: Length and Normalize in the words of the chapter, with all sizes, also those that there are not.
func TestLengthAndNormalizeMean(t *testing.T) {
	for _, v := range vectors(5000) {
		for _, size := range sizes() {
			length := maths.Length(v, size[0])
			over, sum := squares(v[:size[1]])
			if length == most {
				if over == 0 && !isRoot(sum, uint32(most)) && sum < 1<<62 {
					t.Fatalf("Length(%v, %d): Most", v, size[0])
				}
			} else if length < 0 || over > 0 || !isRoot(sum, uint32(length)) {
				t.Fatalf("Length(%v, %d): got raw %d", v, size[0], length)
			}
			var want api.Vec
			if length != 0 {
				for i := range size[1] {
					want[i] = fix.Div(v[i], length)
				}
			}
			if got := maths.Normalize(v, size[0]); got != want {
				t.Fatalf("Normalize(%v, %d): got raws %v, want %v", v, size[0], got, want)
			}
		}
	}
}

// P4.4: Normalize; what lies behind the size is 0.
func TestNormalize(t *testing.T) {
	for _, c := range []struct {
		what string
		v    api.Vec
		n    int
		want api.Vec
	}{
		{"of two", api.Vec{3 * one, 4 * one}, 2, api.Vec{39322, 52429}},
		{"with more behind", api.Vec{3 * one, -4 * one, 7 * one, 1}, 2, api.Vec{39322, -52429}},
		{"of one", api.Vec{-5, one, one, one}, 1, api.Vec{-one}},
		{"of three", api.Vec{0, 0, 2 * one, one}, 3, api.Vec{0, 0, one}},
		{"of four", api.Vec{one, -one, one, -one}, 4, api.Vec{32768, -32768, 32768, -32768}},
		{"of more than four", api.Vec{one, one, one, one}, 5, api.Vec{32768, 32768, 32768, 32768}},
		{"of none", api.Vec{one, one, one, one}, 0, api.Vec{}},
		{"of less than none", api.Vec{one, one, one, one}, -1, api.Vec{}},
		{"of nothing", api.Vec{}, 4, api.Vec{}},
		{"with nothing ahead", api.Vec{0, 0, 0, one}, 3, api.Vec{}},
		{"of the least raws", api.Vec{1, 1, 1}, 3, api.Vec{one, one, one}},
		{"of four Leasts", api.Vec{least, least, least, least}, 4, api.Vec{-one, -one, -one, -one}},
		{"of Least", api.Vec{least}, 1, api.Vec{-one}},
		{"of Most", api.Vec{most}, 4, api.Vec{one}},
		{"of Most and a raw", api.Vec{most, 1, -16384, -16383}, 4, api.Vec{one, 0, -1, 0}},
	} {
		if got := maths.Normalize(c.v, c.n); got != c.want {
			t.Errorf("Normalize %s: got raws %v, want %v", c.what, got, c.want)
		}
	}
}

// P4.5: roots, powers and logarithms are never less for a greater number; Sqrt, squared, is not above x.
func TestNeverLess(t *testing.T) {
	list := some(50000)
	for x := -17 * one; x < 16*one; x += 13 {
		list = append(list, x)
	}
	for _, x := range list {
		if x == most {
			continue
		}
		for _, y := range []api.Fix{x + 1, x/2 + most/2} {
			if y >= x && (maths.Sqrt(y) < maths.Sqrt(x) || maths.Exp2(y) < maths.Exp2(x) || maths.Log2(y) < maths.Log2(x)) {
				t.Fatalf("less for raw %d than for %d", y, x)
			}
		}
		if s := maths.Sqrt(x); x >= 0 && fix.Mul(s, s) > x {
			t.Fatalf("Sqrt of raw %d, squared, is above it: raw %d", x, s)
		}
	}
	next := random()
	for range 50000 {
		n := next() >> (next() >> 58)
		if more := n + next()>>(next()>>58); more >= n && maths.Root(more) < maths.Root(n) {
			t.Fatalf("Root of %d is less than that of %d", more, n)
		}
	}
}

// P4.5: whole powers of 2, and their logarithms.
func TestWholePowers(t *testing.T) {
	for n := -16; n <= 14; n++ {
		x, power := fix.Of(n), api.Fix(1)<<(16+n)
		wantFix(t, "Exp2", x, maths.Exp2(x), power)
		wantFix(t, "Log2", power, maths.Log2(power), x)
	}
}

// P4.5: sines are from -One to One, nearly turned below 0, and their squares are together nearly One.
func TestSinesNear(t *testing.T) {
	list := some(50000)
	for x := api.Fix(-500000); x <= 500000; x += 3 {
		list = append(list, x)
	}
	far := func(a, b api.Fix, by int64) bool {
		d := int64(a) - int64(b)
		return d > by || d < -by
	}
	for _, x := range list {
		s, c := maths.Sin(x), maths.Cos(x)
		switch {
		case far(s, 0, int64(one)) || far(c, 0, int64(one)):
			t.Fatalf("Sin and Cos of raw %d: raws %d, %d", x, s, c)
		case far(maths.Sin(fix.Neg(x)), fix.Neg(s), 2):
			t.Fatalf("Sin of raw %d: raw %d; of Neg: raw %d", x, s, maths.Sin(fix.Neg(x)))
		case far(fix.Add(fix.Mul(s, s), fix.Mul(c, c)), one, 8):
			t.Fatalf("Sin and Cos of raw %d: raws %d, %d; their squares are not near One", x, s, c)
		}
	}
}
