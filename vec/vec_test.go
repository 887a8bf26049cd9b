package vec_test

import (
	"math"
	"testing"

	"paintbox/api"
	"paintbox/fix"
	"paintbox/vec"
)

const (
	one   = api.One
	most  = api.Most
	least = api.Least
)

// edges are the numbers about which something changes.
func edges() []api.Fix {
	return []api.Fix{
		least, least + 1, -one * 256, -98304, -one - 1, -one, -one + 1, -32768, -1,
		0, 1, 2, 32767, 32768, one - 1, one, one + 1, one * 3, one * 182, most - 1, most,
	}
}

// some are n vectors of numbers of all sizes, the edges among them, always the same ones. No number is 0 for long, so that those behind a size stand out.
func some(n int) []api.Vec {
	list := make([]api.Vec, n)
	state := uint64(7)
	for i := range list {
		for k := range list[i] {
			state = state*6364136223846793005 + 1442695040888963407
			if state>>60 < 6 {
				list[i][k] = edges()[state>>32%uint64(len(edges()))]
			} else {
				list[i][k] = api.Fix(int32(state>>32)) >> (state >> 27 & 31)
			}
		}
	}
	return list
}

// wrongSizes are those that no vector has.
func wrongSizes() []int {
	return []int{0, 5, -1, 6, math.MinInt, math.MaxInt, 1 << 32, 1<<32 + 1}
}

// sized is v with what stands behind its size n taken away.
func sized(n int, v api.Vec) api.Vec {
	for i := n; i < len(v); i++ {
		v[i] = 0
	}
	return v
}

func wantVec(t *testing.T, what string, got api.Vec, err api.Errno, want api.Vec) {
	t.Helper()
	if err != api.OK || got != want {
		t.Fatalf("%s: got raws %v, error %d; want %v, no error", what, got, err, want)
	}
}

func wantArg(t *testing.T, what string, got api.Vec, err api.Errno) {
	t.Helper()
	if err != api.ErrArg || got != (api.Vec{}) {
		t.Fatalf("%s: got raws %v, error %d; want noughts, ErrArg", what, got, err)
	}
}

// P3.1: the numbers of the operations are the document's.
func TestOperationNumbers(t *testing.T) {
	two := []int{api.VecAdd, api.VecSub, api.VecMul, api.VecDiv, api.VecMin, api.VecMax, api.VecMod, api.VecStep}
	one := []int{api.VecNeg, api.VecAbs, api.VecSign, api.VecFloor, api.VecFract}
	for _, list := range [][]int{two, one} {
		for i, op := range list {
			if op != i {
				t.Errorf("operation %d has the number %d", i, op)
			}
		}
	}
}

// P3.1: each operation of two, with ordinary numbers and at the ends, each pair at all four places.
func TestTwo(t *testing.T) {
	for _, c := range []struct {
		what             string
		op               int
		a, b, want, back api.Fix // back: with a and b the other way round
	}{
		{"add", api.VecAdd, one, 2 * one, 3 * one, 3 * one},
		{"add beyond Most", api.VecAdd, most, 1, most, most},
		{"add beyond Least", api.VecAdd, least, -1, least, least},
		{"add of both ends", api.VecAdd, most, least, -1, -1},
		{"sub", api.VecSub, one, 3 * one, -2 * one, 2 * one},
		{"sub beyond both ends", api.VecSub, least, most, least, most},
		{"mul", api.VecMul, 3 * one, 98304, 294912, 294912},
		{"mul, half", api.VecMul, 3, 32768, 2, 2},
		{"mul, half below 0", api.VecMul, -3, 32768, -1, -1},
		{"mul beyond Most", api.VecMul, least, -one, most, most},
		{"mul beyond Least", api.VecMul, most, -2 * one, least, least},
		{"div", api.VecDiv, one, 2 * one, 32768, 2 * one},
		{"div, half", api.VecDiv, -1, 2 * one, -1, least},
		{"div by 0", api.VecDiv, 5, 0, most, 0},
		{"div by 0 below 0", api.VecDiv, -5, 0, least, 0},
		{"div of the ends", api.VecDiv, least, most, -one, -one},
		{"min", api.VecMin, 3, -4, -4, -4},
		{"min of the ends", api.VecMin, least, most, least, least},
		{"min of the same", api.VecMin, 7, 7, 7, 7},
		{"max", api.VecMax, 3, -4, 3, 3},
		{"max of the ends", api.VecMax, least, most, most, most},
		{"max of the same", api.VecMax, 7, 7, 7, 7},
		{"mod", api.VecMod, -one, 3 * one, 2 * one, 0},
		{"mod below 0", api.VecMod, 7 * one, -3 * one, -2 * one, 4 * one},
		{"mod by 0", api.VecMod, 5, 0, 5, 0},
		{"mod that saturates", api.VecMod, most, 1, most - 32767, 1},
		{"step", api.VecStep, one, 0, 0, one},
		{"step of the same", api.VecStep, one, one, one, one},
		{"step, just below", api.VecStep, 0, -1, 0, one},
		{"step of the ends", api.VecStep, least, most, one, 0},
		{"step of Least", api.VecStep, least, least, one, one},
	} {
		for place := range 4 {
			a, b, want, back := api.Vec{}, api.Vec{}, api.Vec{}, api.Vec{}
			if c.op == api.VecStep { // 0 is at least 0
				want, back = api.Vec{one, one, one, one}, api.Vec{one, one, one, one}
			}
			a[place], b[place], want[place], back[place] = c.a, c.b, c.want, c.back
			got, err := vec.Two(c.op, 4, a, b)
			wantVec(t, c.what, got, err, want)
			got, err = vec.Two(c.op, 4, b, a)
			wantVec(t, c.what+", turned", got, err, back)
		}
	}
}

// meansTwo is each operation of two in the words of the chapter.
func meansTwo() []func(a, b api.Fix) api.Fix {
	pick := func(left bool, a, b api.Fix) api.Fix {
		if left {
			return a
		}
		return b
	}
	return []func(a, b api.Fix) api.Fix{
		fix.Add, fix.Sub, fix.Mul, fix.Div,
		func(a, b api.Fix) api.Fix { return pick(a < b, a, b) },
		func(a, b api.Fix) api.Fix { return pick(a > b, a, b) },
		func(a, b api.Fix) api.Fix { return fix.Sub(a, fix.Mul(b, fix.Floor(fix.Div(a, b)))) },
		func(a, b api.Fix) api.Fix { return pick(b >= a, one, 0) },
	}
}

// P3.1: by component, up to each size; what stands behind the size is not asked, and 0.
func TestTwoSizes(t *testing.T) {
	list := some(60)
	for op, means := range meansTwo() {
		for n := 1; n <= 4; n++ {
			for _, a := range list {
				for _, b := range list {
					var want api.Vec
					for i := range n {
						want[i] = means(a[i], b[i])
					}
					got, err := vec.Two(op, n, a, b)
					wantVec(t, "Two", got, err, want)
				}
			}
		}
	}
}

// P3.1: each operation of one, with ordinary numbers and at the ends.
func TestOne(t *testing.T) {
	for _, c := range []struct {
		what    string
		op      int
		a, want api.Vec
	}{
		{"neg", api.VecNeg, api.Vec{one, -5, 0, 7}, api.Vec{-one, 5, 0, -7}},
		{"neg of the ends", api.VecNeg, api.Vec{least, most, least + 1, -1}, api.Vec{most, least + 1, most, 1}},
		{"abs", api.VecAbs, api.Vec{one, -one, 0, -3}, api.Vec{one, one, 0, 3}},
		{"abs of the ends", api.VecAbs, api.Vec{least, most, least + 1, -1}, api.Vec{most, most, most, 1}},
		{"sign", api.VecSign, api.Vec{1, 0, -1, 5 * one}, api.Vec{one, 0, -one, one}},
		{"sign of the ends", api.VecSign, api.Vec{least, most, -7 * one, 0}, api.Vec{-one, one, -one, 0}},
		{"floor", api.VecFloor, api.Vec{98304, -98304, one, -one}, api.Vec{one, -2 * one, one, -one}},
		{"floor about 0", api.VecFloor, api.Vec{-1, 0, 1, 65535}, api.Vec{-one, 0, 0, 0}},
		{"floor of the ends", api.VecFloor, api.Vec{least, most, least + 1, -65535}, api.Vec{least, 32767 * one, least, -one}},
		{"fract", api.VecFract, api.Vec{98304, -98304, one, -one}, api.Vec{32768, 32768, 0, 0}},
		{"fract about 0", api.VecFract, api.Vec{-1, 0, 1, 65535}, api.Vec{65535, 0, 1, 65535}},
		{"fract of the ends", api.VecFract, api.Vec{least, most, least + 1, -65535}, api.Vec{0, 65535, 1, 1}},
	} {
		for n := 1; n <= 4; n++ {
			got, err := vec.One(c.op, n, c.a)
			wantVec(t, c.what, got, err, sized(n, c.want))
		}
	}
}

// P3.1: All, of each size.
func TestAll(t *testing.T) {
	for _, x := range edges() {
		for n := 1; n <= 4; n++ {
			got, err := vec.All(n, x)
			wantVec(t, "All", got, err, sized(n, api.Vec{x, x, x, x}))
		}
	}
}

// P3.1, P3.2: sizes that there are not, with operations that there are and that there are not.
func TestWrongSizes(t *testing.T) {
	a, b, c := api.Vec{1, 2, 3, 4}, api.Vec{one, one, one, one}, api.Vec{most, least, 3, 9}
	for _, n := range wrongSizes() {
		for op := -1; op <= 8; op++ {
			got, err := vec.Two(op, n, a, b)
			wantArg(t, "Two", got, err)
			got, err = vec.One(op, n, a)
			wantArg(t, "One", got, err)
		}
		got, err := vec.All(n, one)
		wantArg(t, "All", got, err)
		got, err = vec.Mix(n, a, b, c)
		wantArg(t, "Mix", got, err)
		got, err = vec.Clamp(n, a, b, c)
		wantArg(t, "Clamp", got, err)
		if sum, err := vec.Dot(n, a, b); err != api.ErrArg || sum != 0 {
			t.Fatalf("Dot of size %d: got raw %d, error %d", n, sum, err)
		}
	}
}

// P3.1: one below the first operation, one behind the last, and far beyond; of One also those that only Two has.
func TestWrongOperations(t *testing.T) {
	a, b := api.Vec{1, 2, 3, 4}, api.Vec{5, 6, 7, 8}
	for n := 1; n <= 4; n++ {
		for _, op := range []int{-1, 8, 9, 256, 1 << 32, math.MinInt, math.MaxInt} {
			got, err := vec.Two(op, n, a, b)
			wantArg(t, "Two", got, err)
		}
		for _, op := range []int{-1, 5, 6, 7, 8, 256, 1 << 32, math.MinInt, math.MaxInt} {
			got, err := vec.One(op, n, a)
			wantArg(t, "One", got, err)
		}
	}
}

// P3.2: Dot; each product is rounded and saturates by itself, and the sum goes from the first on.
func TestDot(t *testing.T) {
	ones := api.Vec{one, one, one, one}
	for _, c := range []struct {
		what string
		n    int
		a, b api.Vec
		want api.Fix
	}{
		{"of three", 3, api.Vec{one, 2 * one, 3 * one}, api.Vec{4 * one, 5 * one, 6 * one}, 32 * one},
		{"of one", 1, api.Vec{3 * one, 9, 9, 9}, api.Vec{-2 * one, one, one, one}, -6 * one},
		{"of two", 2, api.Vec{1, 2, 4, 8}, ones, 3},
		{"of three, the fourth left", 3, api.Vec{1, 2, 4, 8}, ones, 7},
		{"of four", 4, api.Vec{1, 2, 4, 8}, ones, 15},
		{"of noughts", 4, api.Vec{}, api.Vec{most, least, 1, 2}, 0},
		{"rounded one by one", 4, api.Vec{1, 1, 1, 1}, api.Vec{32768, 32768, 32768, 32768}, 4},
		{"halves below 0", 4, api.Vec{-1, -1, -3, -3}, api.Vec{32768, 32768, 32768, 32768}, -2},
		{"a product that saturates", 2, api.Vec{most, -one}, api.Vec{most, most}, 0},
		{"a product that saturates below", 2, api.Vec{most, one}, api.Vec{least, most}, -1},
		{"a sum that saturates", 2, api.Vec{most, most}, ones, most},
		{"a sum that saturates below", 2, api.Vec{least, least}, ones, least},
		{"saturated, then less", 3, api.Vec{most, most, least}, ones, -1},
		{"less ahead", 3, api.Vec{least, most, most}, ones, most - 1},
		{"less between", 3, api.Vec{most, least, most}, ones, most - 1},
		{"the fourth last", 4, api.Vec{most, 0, most, least}, ones, -1},
		{"the fourth last, below", 4, api.Vec{least, least, least, most}, ones, -1},
	} {
		if got, err := vec.Dot(c.n, c.a, c.b); err != api.OK || got != c.want {
			t.Errorf("Dot %s: got raw %d, error %d; want %d", c.what, got, err, c.want)
		}
	}
}

// P3.2: Dot in the words of the chapter.
func TestDotMeans(t *testing.T) {
	list := some(100)
	for n := 1; n <= 4; n++ {
		for _, a := range list {
			for _, b := range list {
				want := fix.Mul(a[0], b[0])
				for i := 1; i < n; i++ {
					want = fix.Add(want, fix.Mul(a[i], b[i]))
				}
				if got, err := vec.Dot(n, a, b); err != api.OK || got != want {
					t.Fatalf("Dot(%d, %v, %v): got raw %d, error %d; want %d", n, a, b, got, err, want)
				}
			}
		}
	}
}

// P3.2: Cross; the fourth numbers are not asked, and the fourth one is 0.
func TestCross(t *testing.T) {
	x, y, z := api.Vec{one}, api.Vec{0, one}, api.Vec{0, 0, one}
	for _, c := range []struct {
		what       string
		a, b, want api.Vec
	}{
		{"x y", x, y, z}, {"y z", y, z, x}, {"z x", z, x, y},
		{"y x", y, x, api.Vec{0, 0, -one}}, {"z y", z, y, api.Vec{-one}}, {"x z", x, z, api.Vec{0, -one}},
		{"x x", x, x, api.Vec{}},
		{"ordinary", api.Vec{one, 2 * one, 3 * one}, api.Vec{4 * one, 5 * one, 6 * one}, api.Vec{-3 * one, 6 * one, -3 * one}},
		{"with fourth numbers", api.Vec{one, 0, 0, 5 * one}, api.Vec{0, one, 0, 7 * one}, z},
		{"rounded one by one", api.Vec{0, 1, 1}, api.Vec{0, -32768, 32768}, api.Vec{1}},
		{"products that saturate", api.Vec{0, 1000 * one, 2000 * one}, api.Vec{0, 1000 * one, 1000 * one}, api.Vec{}},
		{"less that saturates", api.Vec{0, most, most}, api.Vec{0, -one, one}, api.Vec{most}},
		{"less that saturates below", api.Vec{most, 0, most}, api.Vec{one, 0, -2 * one}, api.Vec{0, most}},
		{"the ends", api.Vec{least, least, 0}, api.Vec{one, -one, 0}, api.Vec{0, 0, most}},
	} {
		if got := vec.Cross(c.a, c.b); got != c.want {
			t.Errorf("Cross %s: got raws %v, want %v", c.what, got, c.want)
		}
	}
}

// P3.2: Cross in the words of the chapter.
func TestCrossMeans(t *testing.T) {
	list := some(200)
	for _, a := range list {
		for _, b := range list {
			want := api.Vec{
				fix.Sub(fix.Mul(a[1], b[2]), fix.Mul(a[2], b[1])),
				fix.Sub(fix.Mul(a[2], b[0]), fix.Mul(a[0], b[2])),
				fix.Sub(fix.Mul(a[0], b[1]), fix.Mul(a[1], b[0])),
			}
			if got := vec.Cross(a, b); got != want {
				t.Fatalf("Cross(%v, %v): got %v, want %v", a, b, got, want)
			}
		}
	}
}

// P3.2: Mix; where b less a saturates it does not come to b, and t is not held within 0 and One.
func TestMix(t *testing.T) {
	for _, c := range []struct {
		what          string
		a, b, t, want api.Fix
	}{
		{"half way", one, 3 * one, 32768, 2 * one},
		{"at 0", 5, 9, 0, 5},
		{"at One", 5, 9, one, 9},
		{"down", 3 * one, one, 16384, 163840},
		{"beyond One", one, 2 * one, 3 * one, 4 * one},
		{"below 0", one, 2 * one, -one, 0},
		{"half a raw", 0, 1, 32768, 1},
		{"half a raw down", 1, 0, 32768, 1},
		{"from end to end", least, most, one, -1},
		{"from end to end, down", most, least, one, -1},
		{"to Most", 0, most, one, most},
		{"to Least", 0, least, one, least},
		{"a product that saturates", -1, most, most, most - 1},
		{"a sum that saturates", one, most, 2 * one, most},
		{"a sum that saturates below", -one, least, 2 * one, least},
		{"the same at Most", most, most, most, most},
	} {
		for place := range 4 {
			var from, to, at, want api.Vec
			from[place], to[place], at[place], want[place] = c.a, c.b, c.t, c.want
			got, err := vec.Mix(4, from, to, at)
			wantVec(t, "Mix "+c.what, got, err, want)
		}
	}
}

// P3.2: Mix in the words of the chapter, of each size.
func TestMixMeans(t *testing.T) {
	list := some(30)
	for n := 1; n <= 4; n++ {
		for _, a := range list {
			for _, b := range list {
				for _, at := range list {
					var want api.Vec
					for i := range n {
						want[i] = fix.Add(a[i], fix.Mul(fix.Sub(b[i], a[i]), at[i]))
					}
					got, err := vec.Mix(n, a, b, at)
					wantVec(t, "Mix", got, err, want)
				}
			}
		}
	}
}

// P3.2: Clamp, also with its ends the wrong way round: then it is high.
func TestClamp(t *testing.T) {
	for _, c := range []struct {
		what               string
		x, low, high, want api.Vec
	}{
		{"above, below, within", api.Vec{9, -9, 3, 5}, api.Vec{0, 0, 0, 0}, api.Vec{5, 5, 5, 5}, api.Vec{5, 0, 3, 5}},
		{"ends of their own", api.Vec{4, 4, 4, 4}, api.Vec{1, 5, 4, 2}, api.Vec{3, 9, 4, 7}, api.Vec{3, 5, 4, 4}},
		{"the wrong way round", api.Vec{9, -9, 3, 0}, api.Vec{5, 5, 5, 5}, api.Vec{0, 0, 0, 0}, api.Vec{}},
		{"Most and Least", api.Vec{most, least, most, least}, api.Vec{-1, -1, least, most}, api.Vec{1, 1, most, least}, api.Vec{1, -1, most, least}},
	} {
		for n := 1; n <= 4; n++ {
			got, err := vec.Clamp(n, c.x, c.low, c.high)
			wantVec(t, "Clamp "+c.what, got, err, sized(n, c.want))
		}
	}
}

// P3.3: Pick and Put, with ordinary places.
func TestPickAndPut(t *testing.T) {
	v, from := api.Vec{1, 2, 3, 4}, api.Vec{9, 8, 7, 6}
	for _, c := range []struct {
		places    []int
		pick, put api.Vec
	}{
		{[]int{0}, api.Vec{1}, api.Vec{9, 2, 3, 4}},
		{[]int{3}, api.Vec{4}, api.Vec{1, 2, 3, 9}},
		{[]int{2, 0}, api.Vec{3, 1}, api.Vec{8, 2, 9, 4}},
		{[]int{1, 3, 0}, api.Vec{2, 4, 1}, api.Vec{7, 9, 3, 8}},
		{[]int{0, 1, 2, 3}, v, from},
		{[]int{3, 2, 1, 0}, api.Vec{4, 3, 2, 1}, api.Vec{6, 7, 8, 9}},
	} {
		got, err := vec.Pick(v, c.places...)
		wantVec(t, "Pick", got, err, c.pick)
		got, err = vec.Put(v, from, c.places...)
		wantVec(t, "Put", got, err, c.put)
	}
	got, err := vec.Pick(v, 3, 3, 0)
	wantVec(t, "a place twice", got, err, api.Vec{4, 4, 1})
	got, err = vec.Pick(v, 2, 2, 2, 2)
	wantVec(t, "a place four times", got, err, api.Vec{3, 3, 3, 3})
	ends := api.Vec{most, least}
	got, err = vec.Put(api.Vec{}, ends, 1, 3)
	wantVec(t, "the ends", got, err, api.Vec{0, most, 0, least})
	got, err = vec.Put(v, api.Vec{}, 1, 2)
	wantVec(t, "noughts", got, err, api.Vec{1, 0, 0, 4})
}

// allPlaces tells each list of up to five places from -1 to 4, and asks f of it.
func allPlaces(f func(places []int)) {
	var more func(places []int)
	more = func(places []int) {
		f(places)
		if len(places) == 5 {
			return
		}
		for p := -1; p <= 4; p++ {
			more(append(places[:len(places):len(places)], p))
		}
	}
	more(nil)
}

// P3.3: every list of places, good and bad: none, one, four, five; -1 and 4; a place twice, wherever it stands.
func TestAllPlaces(t *testing.T) {
	v, from := api.Vec{1, 2, 3, 4}, api.Vec{9, 8, 7, 6}
	allPlaces(func(places []int) {
		good, unlike := len(places) >= 1 && len(places) <= 4, true
		for i, p := range places {
			good = good && p >= 0 && p <= 3
			for _, q := range places[:i] {
				unlike = unlike && p != q
			}
		}
		picked, pickErr := vec.Pick(v, places...)
		put, putErr := vec.Put(v, from, places...)
		if !good {
			wantArg(t, "Pick", picked, pickErr)
			wantArg(t, "Put", put, putErr)
			return
		}
		var wantPick api.Vec
		wantPut := v
		for i, p := range places {
			wantPick[i] = v[p]
			wantPut[p] = from[i]
		}
		wantVec(t, "Pick", picked, pickErr, wantPick)
		if !unlike {
			wantArg(t, "Put", put, putErr)
			return
		}
		wantVec(t, "Put", put, putErr, wantPut)
	})
}

// P3.3: a place twice is refused whatever the numbers are, those that are alike too.
func TestTwiceHangsOnPlacesAlone(t *testing.T) {
	for _, v := range []api.Vec{{}, {1, 1, 1, 1}, {1, 2, 3, 4}, {most, least, most, least}} {
		got, err := vec.Put(v, v, 1, 1)
		wantArg(t, "1 and 1", got, err)
		got, err = vec.Put(v, v, 0, 1, 2, 0)
		wantArg(t, "0 first and last", got, err)
		got, err = vec.Put(api.Vec{}, v, 3, 2, 1, 0)
		wantVec(t, "all four", got, err, api.Vec{v[3], v[2], v[1], v[0]})
	}
}

// P3.3: places far beyond, many of them, and nil for none.
func TestFarPlaces(t *testing.T) {
	v := api.Vec{1, 2, 3, 4}
	for _, places := range [][]int{
		nil, {}, {math.MinInt}, {math.MaxInt}, {0, math.MaxInt}, {0, 1, 2, math.MinInt}, {1 << 32}, {1<<32 + 1},
		{0, 1, 2, 3, 0}, {0, 0, 0, 0, 0}, make([]int, 1000), {4}, {-1}, {3, 4}, {0, -1},
	} {
		got, err := vec.Pick(v, places...)
		wantArg(t, "Pick", got, err)
		got, err = vec.Put(v, v, places...)
		wantArg(t, "Put", got, err)
	}
}

// R3: the list of places is not changed, the room behind its end neither.
func TestPlacesStay(t *testing.T) {
	room := [5]int{2, 0, 7, 8, 9}
	v := api.Vec{1, 2, 3, 4}
	for n := range 5 {
		vec.Pick(v, room[:n]...)
		vec.Put(v, v, room[:n]...)
	}
	if room != [5]int{2, 0, 7, 8, 9} || v != (api.Vec{1, 2, 3, 4}) {
		t.Errorf("places became %v, the vector %v", room, v)
	}
}

// P3.4: what Put lays at places Pick takes from them.
func TestPutThenPick(t *testing.T) {
	v, from := api.Vec{1, 2, 3, 4}, api.Vec{most, least, 7, 0}
	good := 0
	allPlaces(func(places []int) {
		put, err := vec.Put(v, from, places...)
		if err != api.OK {
			return
		}
		good++
		got, err := vec.Pick(put, places...)
		wantVec(t, "Pick of Put", got, err, sized(len(places), from))
	})
	if good != 4+12+24+24 {
		t.Errorf("Put took %d lists of places", good)
	}
}

// P3.4: VecMin and VecMax of both are both, in order; Clamp is VecMin of VecMax.
func TestMinMaxClamp(t *testing.T) {
	list := some(40)
	for _, a := range list {
		for _, b := range list {
			low, _ := vec.Two(api.VecMin, 4, a, b)
			high, _ := vec.Two(api.VecMax, 4, a, b)
			for i := range 4 {
				if low[i] > high[i] || (low[i] != a[i] || high[i] != b[i]) && (low[i] != b[i] || high[i] != a[i]) {
					t.Fatalf("VecMin and VecMax of %v and %v: %v, %v", a, b, low, high)
				}
			}
			for _, x := range list {
				for n := 1; n <= 4; n++ {
					lifted, _ := vec.Two(api.VecMax, n, x, a)
					want, _ := vec.Two(api.VecMin, n, lifted, b)
					got, err := vec.Clamp(n, x, a, b)
					wantVec(t, "Clamp", got, err, want)
				}
			}
		}
	}
}

// P3.4: Dot is the same either way round.
func TestDotTurned(t *testing.T) {
	list := some(150)
	for n := 1; n <= 4; n++ {
		for _, a := range list {
			for _, b := range list {
				there, _ := vec.Dot(n, a, b)
				back, _ := vec.Dot(n, b, a)
				if there != back {
					t.Fatalf("Dot(%d) of %v and %v: %d, turned %d", n, a, b, there, back)
				}
			}
		}
	}
}

// P3.4: VecFract and VecFloor together are the number.
func TestFloorAndFract(t *testing.T) {
	list := some(3000)
	for _, x := range edges() {
		list = append(list, api.Vec{x, x, x, x})
	}
	for _, a := range list {
		for n := 1; n <= 4; n++ {
			floor, _ := vec.One(api.VecFloor, n, a)
			part, _ := vec.One(api.VecFract, n, a)
			got, err := vec.Two(api.VecAdd, n, floor, part)
			wantVec(t, "floor and fract", got, err, sized(n, a))
		}
	}
}
