package fix_test

import (
	"math"
	"testing"

	"paintbox/api"
	"paintbox/fix"
)

const (
	one   = api.One
	most  = api.Most
	least = api.Least
)

// edges are the numbers about which something changes.
func edges() []api.Fix {
	return []api.Fix{
		least, least + 1, least + 32768, least + 65535, least + 65536, -one * 256, -one*3 - 1, -one * 2,
		-one - 1, -one, -one + 1, -32769, -32768, -32767, -256, -3, -2, -1, 0, 1, 2, 3, 255, 256, 257,
		32767, 32768, 32769, one - 1, one, one + 1, one * 2, one*3 - 1, one * 3, one * 181, one * 256,
		most - 65536, most - 65535, most - 32768, most - 1, most,
	}
}

// some are the edges, and n more numbers of all sizes, always the same ones.
func some(n int) []api.Fix {
	list := edges()
	state := uint64(1)
	for range n {
		state = state*6364136223846793005 + 1442695040888963407
		list = append(list, api.Fix(int32(state>>32))>>(state>>27&31))
	}
	return list
}

// saturated is the number of raw n, in the words of the chapter.
func saturated(n int64) api.Fix {
	if n > 1<<31-1 {
		return most
	}
	if n < -1<<31 {
		return least
	}
	return api.Fix(n)
}

func want(t *testing.T, what string, got, want api.Fix) {
	t.Helper()
	if got != want {
		t.Errorf("%s: got raw %d, want raw %d", what, got, want)
	}
}

// P2.1: Raw takes what is within, and saturates at both ends, however far beyond.
func TestRaw(t *testing.T) {
	for _, c := range []struct {
		n    int64
		want api.Fix
	}{
		{0, 0}, {1, 1}, {-1, -1}, {98304, 98304}, {1<<31 - 1, most}, {1 << 31, most}, {1<<31 + 1, most},
		{-1 << 31, least}, {-1<<31 + 1, least + 1}, {-1<<31 - 1, least}, {1<<32 + 5, most}, {-1<<32 - 5, least},
		{1 << 32, most}, {-1 << 32, least}, {math.MaxInt64, most}, {math.MinInt64, least},
	} {
		want(t, "Raw", fix.Raw(c.n), c.want)
	}
}

// P2.1: Of, to the greatest and the least int, and where 2^16 n would pass 64 bits.
func TestOf(t *testing.T) {
	for _, c := range []struct {
		n    int
		want api.Fix
	}{
		{0, 0}, {1, one}, {-1, -one}, {3, 196608}, {32767, 32767 * one}, {32768, most}, {32769, most},
		{-32767, -32767 * one}, {-32768, least}, {-32769, least}, {40000, most}, {-40000, least},
		{65536, most}, {-65536, least}, {1 << 31, most}, {-1 << 31, least}, {1 << 47, most}, {-1<<47 - 1, least},
		{1 << 48, most}, {-1 << 48, least}, {1<<48 + 1, most}, {3 << 47, most}, {math.MaxInt, most}, {math.MinInt, least},
	} {
		want(t, "Of", fix.Of(c.n), c.want)
	}
}

// P2.1: Int goes down, below 0 too.
func TestInt(t *testing.T) {
	for _, c := range []struct {
		x    api.Fix
		want int
	}{
		{0, 0}, {1, 0}, {65535, 0}, {one, 1}, {98304, 1}, {-1, -1}, {-65535, -1}, {-one, -1}, {-one - 1, -2},
		{most, 32767}, {least, -32768}, {least + 1, -32768}, {least + one, -32767},
	} {
		if got := fix.Int(c.x); got != c.want {
			t.Errorf("Int of raw %d: got %d, want %d", c.x, got, c.want)
		}
	}
	for n := -32768; n <= 32767; n++ {
		if got := fix.Int(fix.Of(n)); got != n {
			t.Fatalf("Int of Of(%d): %d", n, got)
		}
	}
}

// P2.2: the chapter's examples, and both ends.
func TestSums(t *testing.T) {
	want(t, "Add", fix.Add(one, 32768), 98304)
	want(t, "Add beyond Most", fix.Add(most, 1), most)
	want(t, "Add beyond Least", fix.Add(least, -1), least)
	want(t, "Add of both ends", fix.Add(most, least), -1)
	want(t, "Add of Most twice", fix.Add(most, most), most)
	want(t, "Sub", fix.Sub(1, 2), -1)
	want(t, "Sub beyond Most", fix.Sub(most, -1), most)
	want(t, "Sub beyond Least", fix.Sub(least, 1), least)
	want(t, "Sub of Least from 0", fix.Sub(0, least), most)
	want(t, "Neg", fix.Neg(7), -7)
	want(t, "Neg of 0", fix.Neg(0), 0)
	want(t, "Neg of Least", fix.Neg(least), most)
	want(t, "Neg of Most", fix.Neg(most), least+1)
	want(t, "Abs", fix.Abs(-7), 7)
	want(t, "Abs above 0", fix.Abs(7), 7)
	want(t, "Abs of 0", fix.Abs(0), 0)
	want(t, "Abs of Least", fix.Abs(least), most)
	want(t, "Abs of Most", fix.Abs(most), most)
	for _, a := range some(200) {
		for _, b := range some(200) {
			want(t, "Add", fix.Add(a, b), saturated(int64(a)+int64(b)))
			want(t, "Sub", fix.Sub(a, b), saturated(int64(a)-int64(b)))
		}
	}
}

// P2.2: Mul rounds halves up, above 0 and below it, and saturates.
func TestMul(t *testing.T) {
	for _, c := range [][3]api.Fix{
		{3, 32768, 2}, {-3, 32768, -1}, {3, -32768, -1}, {-3, -32768, 2}, {1, 32768, 1}, {-1, 32768, 0},
		{1, 32767, 0}, {-1, 32767, 0}, {-1, 32769, -1}, {1, 32769, 1}, {0, most, 0}, {least, 0, 0},
		{one, most, most}, {one, least, least}, {-one, least, most}, {-one, most, least + 1},
		{most, most, most}, {least, least, most}, {most, least, least}, {3 * one, 98304, 4*one + 32768},
		{181 * one, 181 * one, 32761 * one}, {182 * one, 182 * one, most}, {-182 * one, 182 * one, least},
		{-256 * one, 128 * one, least}, {256 * one, 128 * one, most},
	} {
		want(t, "Mul", fix.Mul(c[0], c[1]), c[2])
	}
}

// P2.2: Mul's raw is the greatest n with 2^16 n not above a b + 2^15.
func TestMulMeans(t *testing.T) {
	for _, a := range some(300) {
		for _, b := range some(300) {
			sum := int64(a)*int64(b) + 1<<15
			n := sum / 65536
			if n*65536 > sum {
				n--
			}
			if got := fix.Mul(a, b); got != saturated(n) {
				t.Fatalf("Mul of raws %d and %d: got %d, want %d", a, b, got, saturated(n))
			}
		}
	}
}

// P2.2: Div rounds halves away from 0, saturates, and divides by 0.
func TestDiv(t *testing.T) {
	for _, c := range [][3]api.Fix{
		{one, 3 * one, 21845}, {2 * one, 3 * one, 43691}, {-one, 3 * one, -21845}, {one, -3 * one, -21845},
		{-one, -3 * one, 21845}, {1, 2 * one, 1}, {-1, 2 * one, -1}, {1, -2 * one, -1}, {-1, -2 * one, 1},
		{3, 2 * one, 2}, {-3, 2 * one, -2}, {1, 2*one + 1, 0}, {-1, 2*one + 1, 0}, {1, 2*one - 1, 1},
		{0, 0, 0}, {5, 0, most}, {-5, 0, least}, {1, 0, most}, {-1, 0, least}, {most, 0, most}, {least, 0, least},
		{0, 5, 0}, {0, -5, 0}, {0, least, 0}, {most, one, most}, {least, one, least}, {least, -one, most},
		{most, -one, least + 1}, {most, 1, most}, {least, 1, least}, {most, -1, least}, {least, -1, most},
		{least, least, one}, {most, most, one}, {least, most, -one}, {most, least, -one}, {1, least, 0}, {1, most, 0},
		{16384, least, -1}, {-16384, least, 1}, {16383, least, 0}, {32767, 1, 32767 * one}, {32768, 1, most}, {-32768, 1, least},
	} {
		want(t, "Div", fix.Div(c[0], c[1]), c[2])
	}
}

// P2.2: no whole number is nearer to 2^16 a / b than Div's raw; of two that are as near it is farther from 0.
func TestDivMeans(t *testing.T) {
	for _, a := range some(300) {
		for _, b := range some(300) {
			if b == 0 {
				continue
			}
			p, q := int64(a)<<16, int64(b)
			n := p / q
			for _, k := range []int64{n - 1, n + 1} {
				gap, other := size(p-n*q), size(p-k*q)
				if other < gap || other == gap && size(k) > size(n) {
					n = k
				}
			}
			if got := fix.Div(a, b); got != saturated(n) {
				t.Fatalf("Div of raws %d and %d: got %d, want %d", a, b, got, saturated(n))
			}
		}
	}
}

func size(n int64) int64 {
	if n < 0 {
		return -n
	}
	return n
}

// P2.3: Floor and Fract, on both sides of 0 and at the ends.
func TestFloorAndFract(t *testing.T) {
	for _, c := range [][3]api.Fix{
		{0, 0, 0}, {1, 0, 1}, {65535, 0, 65535}, {one, one, 0}, {98304, one, 32768}, {-1, -one, 65535},
		{-65535, -one, 1}, {-one, -one, 0}, {-one - 1, -2 * one, 65535}, {-98304, -2 * one, 32768},
		{most, 32767 * one, 65535}, {least, least, 0}, {least + 1, least, 1}, {least + 65535, least, 65535},
	} {
		want(t, "Floor", fix.Floor(c[0]), c[1])
		want(t, "Fract", fix.Fract(c[0]), c[2])
	}
	for _, a := range some(2000) {
		f := fix.Floor(a)
		if f%65536 != 0 || f > a || int64(a)-int64(f) > 65535 {
			t.Fatalf("Floor of raw %d: %d", a, f)
		}
		want(t, "Fract", fix.Fract(a), a-f)
	}
}

// P2.3: Sign.
func TestSign(t *testing.T) {
	for _, c := range [][2]api.Fix{
		{0, 0}, {1, one}, {-1, -one}, {2, one}, {-9, -one}, {one, one}, {-one, -one}, {most, one}, {least, -one},
	} {
		want(t, "Sign", fix.Sign(c[0]), c[1])
	}
}

// P2.3: Min and Max.
func TestMinAndMax(t *testing.T) {
	for _, c := range [][4]api.Fix{
		{1, 2, 1, 2}, {2, 1, 1, 2}, {-1, 1, -1, 1}, {1, -1, -1, 1}, {5, 5, 5, 5}, {least, most, least, most}, {most, least, least, most}, {-2, -1, -2, -1}, {0, least, least, 0}, {0, most, 0, most},
	} {
		want(t, "Min", fix.Min(c[0], c[1]), c[2])
		want(t, "Max", fix.Max(c[0], c[1]), c[3])
	}
}

// P2.3: Clamp, also with its ends the wrong way round: then it is high.
func TestClamp(t *testing.T) {
	for _, c := range [][4]api.Fix{
		{9, 0, 5, 5}, {-9, 0, 5, 0}, {3, 0, 5, 3}, {0, 0, 5, 0}, {5, 0, 5, 5}, {6, 0, 5, 5}, {-1, 0, 5, 0},
		{3, 4, 4, 4}, {3, 5, 0, 0}, {-3, 5, 0, 0}, {9, 5, 0, 0}, {9, least, most, 9}, {9, most, least, least},
		{least, -1, 1, -1}, {most, -1, 1, 1},
	} {
		want(t, "Clamp", fix.Clamp(c[0], c[1], c[2]), c[3])
	}
}

// P2.3: Mod, with both signs, of 0 and by 0, and where its parts saturate.
func TestMod(t *testing.T) {
	for _, c := range [][3]api.Fix{
		{-one, 3 * one, 131072}, {one, 3 * one, one}, {7 * one, 3 * one, one}, {-7 * one, 3 * one, 2 * one},
		{7 * one, -3 * one, -2 * one}, {-7 * one, -3 * one, -one}, {98304, one, 32768}, {-98304, one, 32768},
		{6 * one, 3 * one, 0}, {0, 3 * one, 0}, {0, 0, 0}, {5, 0, 5}, {-5, 0, -5}, {most, 0, most}, {least, 0, least},
		{most, one, 65535}, {least, one, 0}, {least, -one, -one}, {most, 1, most - 32767}, {least, 1, least + 32768},
		{most, 2, most - 65534}, {most, most, 0}, {least, least, 0}, {least, most, -1}, {most, least, 0},
	} {
		want(t, "Mod", fix.Mod(c[0], c[1]), c[2])
	}
	for _, a := range some(200) {
		for _, b := range some(200) {
			want(t, "Mod", fix.Mod(a, b), fix.Sub(a, fix.Mul(b, fix.Floor(fix.Div(a, b)))))
		}
	}
}

// P2.5: Add and Mul don't hang on the order; Sub undoes Add where nothing saturates.
func TestOrder(t *testing.T) {
	for _, a := range some(300) {
		for _, b := range some(300) {
			if fix.Add(a, b) != fix.Add(b, a) || fix.Mul(a, b) != fix.Mul(b, a) {
				t.Fatalf("the order of raws %d and %d", a, b)
			}
			sum := int64(a) + int64(b)
			if saturated(sum) == api.Fix(sum) && fix.Sub(fix.Add(a, b), b) != a {
				t.Fatalf("Sub(Add(a, b), b) of raws %d and %d", a, b)
			}
		}
	}
}

// P2.5: Mul with One and Div by One change nothing; Fract is from 0 on, below One.
func TestOneAndFract(t *testing.T) {
	for _, a := range some(5000) {
		want(t, "Mul with One", fix.Mul(a, one), a)
		want(t, "Mul of One", fix.Mul(one, a), a)
		want(t, "Div by One", fix.Div(a, one), a)
		if f := fix.Fract(a); f < 0 || f >= one {
			t.Fatalf("Fract of raw %d: %d", a, f)
		}
	}
}

// P2.5: Add, and Mul and Div by what is above 0, are never less for a greater a.
func TestRises(t *testing.T) {
	for _, a := range some(150) {
		for _, more := range []api.Fix{fix.Add(a, 1), fix.Add(a, 2), fix.Add(a, 40000), fix.Add(a, 5*one), most} {
			for _, b := range some(150) {
				if fix.Add(more, b) < fix.Add(a, b) {
					t.Fatalf("Add falls from raw %d to %d with %d", a, more, b)
				}
				if b > 0 && (fix.Mul(more, b) < fix.Mul(a, b) || fix.Div(more, b) < fix.Div(a, b)) {
					t.Fatalf("Mul or Div falls from raw %d to %d by %d", a, more, b)
				}
			}
		}
	}
}
