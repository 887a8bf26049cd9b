package fetch_test

import (
	"testing"

	"paintbox/api"
	"paintbox/fetch"
)

// far: numbers that are no kind, no mode, no size and no place.
var far = []int{-1 << 63, -1 << 31, -1<<31 - 1, -257, -256, -2, 1 << 31, 1<<32 + 1, 1<<32 + 2, 1<<63 - 1}

// P20.1: each field of an array at its ends and one beyond.
func TestCheck(t *testing.T) {
	for _, normalized := range []bool{false, true} {
		good := api.Array{Size: 2, Kind: api.KindShort, Normalized: normalized, Stride: 4, Offset: 8}
		for i, x := range []struct {
			field       *int
			least, most int
		}{{&good.Size, 1, 4}, {&good.Kind, 1, 5}, {&good.Stride, 0, 255}, {&good.Offset, 0, 262144}} {
			was := *x.field
			for _, n := range append([]int{x.least - 1, x.least, x.least + 1, x.most - 1, x.most, x.most + 1}, far...) {
				want := api.ErrArg
				if n >= x.least && n <= x.most {
					want = api.OK
				}
				*x.field = n
				if e := fetch.Check(good); e != want {
					t.Error(i, n, e)
				}
			}
			*x.field = was
		}
	}
	if e := fetch.Check(api.Array{}); e != api.ErrArg {
		t.Error(e)
	}
}

// P20.1: the bytes of each kind, and of none.
func TestWidth(t *testing.T) {
	for kind, want := range []int{0, 1, 1, 2, 2, 4, 0, 0} {
		if n := fetch.Width(kind); n != want {
			t.Error(kind, n)
		}
	}
	for _, kind := range append([]int{-1}, far...) {
		if n := fetch.Width(kind); n != 0 {
			t.Error(kind, n)
		}
	}
}

// P20.2: what some numbers stand for, written out.
func TestNumberWritten(t *testing.T) {
	for i, x := range []struct {
		kind       int
		normalized bool
		n          int64
		want       api.Fix
	}{
		{1, false, -128, -128 * api.One}, {1, false, -1, -api.One}, {1, false, 0, 0}, {1, false, 127, 127 * api.One},
		{1, true, -128, -api.One}, {1, true, -127, -api.One}, {1, true, -126, -65020}, {1, true, -64, -33026}, {1, true, -1, -516}, {1, true, 0, 0}, {1, true, 1, 516}, {1, true, 64, 33026}, {1, true, 127, api.One},
		{2, false, 0, 0}, {2, false, 1, api.One}, {2, false, 255, 255 * api.One},
		{2, true, 0, 0}, {2, true, 1, 257}, {2, true, 127, 32639}, {2, true, 128, 32897}, {2, true, 254, 65279}, {2, true, 255, api.One},
		{3, false, -32768, api.Least}, {3, false, -1, -api.One}, {3, false, 32767, 32767 * api.One},
		{3, true, -32768, -api.One}, {3, true, -32767, -api.One}, {3, true, -32766, -65534}, {3, true, -1, -2}, {3, true, 1, 2}, {3, true, 16383, 32767}, {3, true, 16384, 32769}, {3, true, 32767, api.One},
		{4, false, 32767, 32767 * api.One}, {4, false, 32768, api.Most}, {4, false, 40000, api.Most}, {4, false, 65535, api.Most},
		{4, true, 0, 0}, {4, true, 1, 1}, {4, true, 32767, 32767}, {4, true, 32768, 32769}, {4, true, 65534, 65535}, {4, true, 65535, api.One},
		{5, false, -1 << 31, api.Least}, {5, false, -1, -1}, {5, false, 0, 0}, {5, false, 65536, api.One}, {5, false, 1<<31 - 1, api.Most},
		{5, true, -1 << 31, api.Least}, {5, true, -65537, -65537}, {5, true, 1, 1}, {5, true, 1<<31 - 1, api.Most},
	} {
		if y, e := fetch.Number(x.kind, x.normalized, x.n); y != x.want || e != api.OK {
			t.Error(i, x, y, e)
		}
	}
}

// P20.2, P20.5: every number of the four small kinds against the second reading; normalized ones lie from -One to One, in order, and no one lies halfway between two raws.
func TestNumberEach(t *testing.T) {
	for kind := 1; kind <= 4; kind++ {
		_, least, most := ends(kind)
		for _, normalized := range []bool{false, true} {
			last := api.Least
			for n := least; n <= most; n++ {
				y, e := fetch.Number(kind, normalized, n)
				if int64(y) != stands(kind, normalized, n) || e != api.OK {
					t.Fatal(kind, normalized, n, y, e)
				}
				if y < last || normalized && (y < -api.One || y > api.One) {
					t.Fatal(kind, n, y)
				}
				last = y
				if n*65536*2%most == 0 && n*65536*2/most%2 != 0 {
					t.Fatal("halfway", kind, n)
				}
			}
			if y, _ := fetch.Number(kind, normalized, 0); y != 0 {
				t.Error(kind, y)
			}
			if y, _ := fetch.Number(kind, true, most); y != api.One {
				t.Error(kind, y)
			}
		}
	}
}

// P20.2: numbers of the widest kind are raws, normalized or not.
func TestNumberFixed(t *testing.T) {
	var c chance
	for range 20000 {
		n := int64(int32(c.below(1<<31)<<1 | c.below(2)))
		if y, e := fetch.Number(api.KindFixed, c.below(2) == 0, n); int64(y) != n || e != api.OK {
			t.Fatal(n, y, e)
		}
	}
}

// P20.2: what is no number of its kind, and what is no kind.
func TestNumberWrong(t *testing.T) {
	beyond := []int64{-1 << 63, 1<<63 - 1, -1 << 32, 1 << 32, 1 << 48}
	for kind := 1; kind <= 5; kind++ {
		_, least, most := ends(kind)
		for _, n := range append([]int64{least - 1, most + 1, least - 256, most + 65536}, beyond...) {
			for _, normalized := range []bool{false, true} {
				if y, e := fetch.Number(kind, normalized, n); y != 0 || e != api.ErrArg {
					t.Error(kind, n, y, e)
				}
			}
		}
	}
	for _, kind := range append([]int{-1, 0, 6, 7}, far...) {
		for _, n := range []int64{-1, 0, 1, 127} {
			if y, e := fetch.Number(kind, n == 0, n); y != 0 || e != api.ErrArg {
				t.Error(kind, n, y, e)
			}
		}
	}
}
