package sample_test

import (
	"math"
	"testing"

	"paintbox/api"
	"paintbox/sample"
)

// P9.1: each mode, in its places, at both ends, past them, and below 0.
func TestWrap(t *testing.T) {
	rows := []struct {
		mode, n int
		from    int
		want    []int
	}{
		{api.Repeat, 4, -9, []int{3, 0, 1, 2, 3, 0, 1, 2, 3, 0, 1, 2, 3, 0, 1, 2, 3, 0, 1}},
		{api.Clamp, 4, -3, []int{0, 0, 0, 0, 1, 2, 3, 3, 3, 3}},
		{api.Mirror, 4, -9, []int{0, 0, 1, 2, 3, 3, 2, 1, 0, 0, 1, 2, 3, 3, 2, 1, 0, 0, 1}},
		{api.Repeat, 3, -4, []int{2, 0, 1, 2, 0, 1, 2, 0, 1, 2}},
		{api.Clamp, 3, -2, []int{0, 0, 0, 1, 2, 2, 2}},
		{api.Mirror, 3, -7, []int{0, 0, 1, 2, 2, 1, 0, 0, 1, 2, 2, 1, 0, 0, 1}},
		{api.Repeat, 2, -3, []int{1, 0, 1, 0, 1, 0, 1}},
		{api.Mirror, 2, -5, []int{0, 0, 1, 1, 0, 0, 1, 1, 0, 0, 1}},
		{api.Repeat, 1, -3, []int{0, 0, 0, 0, 0, 0, 0}},
		{api.Clamp, 1, -3, []int{0, 0, 0, 0, 0, 0, 0}},
		{api.Mirror, 1, -3, []int{0, 0, 0, 0, 0, 0, 0}},
		{api.Repeat, 64, 62, []int{62, 63, 0, 1}},
		{api.Clamp, 64, 62, []int{62, 63, 63, 63}},
		{api.Mirror, 64, 62, []int{62, 63, 63, 62}},
		{api.Mirror, 64, 126, []int{1, 0, 0, 1}},
		{api.Mirror, 64, -66, []int{62, 63, 63, 62}},
	}
	for _, r := range rows {
		for k, want := range r.want {
			if got := sample.Wrap(r.mode, r.from+k, r.n); got != want {
				t.Errorf("Wrap(%d, %d, %d) = %d; want %d", r.mode, r.from+k, r.n, got, want)
			}
		}
	}
}

// P9.1: the greatest and the least whole numbers there are: -2^63 and 2^63 - 1, of which 2^63 modulo 3, 5, 6, 7, 10, 14 are 2, 3, 2, 1, 8, 8.
func TestWrapFar(t *testing.T) {
	rows := []struct{ mode, i, n, want int }{
		{api.Repeat, math.MaxInt, 64, 63}, {api.Repeat, math.MinInt, 64, 0}, {api.Repeat, math.MinInt + 1, 64, 1},
		{api.Repeat, math.MaxInt, 3, 1}, {api.Repeat, math.MinInt, 3, 1}, {api.Repeat, math.MaxInt - 1, 3, 0},
		{api.Repeat, math.MaxInt, 5, 2}, {api.Repeat, math.MinInt, 5, 2},
		{api.Repeat, math.MaxInt, 7, 0}, {api.Repeat, math.MinInt, 7, 6},
		{api.Repeat, math.MaxInt, 1, 0}, {api.Repeat, math.MinInt, 1, 0},
		{api.Clamp, math.MaxInt, 64, 63}, {api.Clamp, math.MinInt, 64, 0}, {api.Clamp, math.MaxInt, 1, 0}, {api.Clamp, math.MinInt, 7, 0},
		{api.Mirror, math.MaxInt, 64, 0}, {api.Mirror, math.MinInt, 64, 0}, {api.Mirror, math.MinInt + 1, 64, 1}, {api.Mirror, math.MaxInt - 1, 64, 1},
		{api.Mirror, math.MaxInt, 3, 1}, {api.Mirror, math.MinInt, 3, 1}, {api.Mirror, math.MaxInt - 1, 3, 0}, {api.Mirror, math.MinInt + 1, 3, 0},
		{api.Mirror, math.MaxInt, 5, 2}, {api.Mirror, math.MinInt, 5, 2},
		{api.Mirror, math.MaxInt, 7, 6}, {api.Mirror, math.MinInt, 7, 6},
		{api.Mirror, math.MaxInt, 1, 0}, {api.Mirror, math.MinInt, 1, 0},
	}
	for _, r := range rows {
		if got := sample.Wrap(r.mode, r.i, r.n); got != r.want {
			t.Errorf("Wrap(%d, %d, %d) = %d; want %d", r.mode, r.i, r.n, got, r.want)
		}
	}
}

// P9.1: no such places, no such mode.
func TestWrapNone(t *testing.T) {
	whole := append(ends(), -65, -1, 0, 1, 2, 5, 63, 64, 65, 129)
	for _, i := range whole {
		for _, mode := range []int{api.Repeat, api.Clamp, api.Mirror} {
			for _, n := range append(ends(), -64, -2, -1, 0, 65, 66, 128) {
				if got := sample.Wrap(mode, i, n); got != 0 {
					t.Errorf("Wrap(%d, %d, %d) = %d; want 0", mode, i, n, got)
				}
			}
		}
		for _, mode := range append(ends(), -3, -1, 0, 4, 5) {
			for _, n := range append(ends(), -1, 0, 1, 2, 7, 64, 65) {
				if got := sample.Wrap(mode, i, n); got != 0 {
					t.Errorf("Wrap(%d, %d, %d) = %d; want 0", mode, i, n, got)
				}
			}
		}
	}
}

// wrapped is Wrap in the chapter's words, step by step: it goes from 0 to i through the places.
func wrapped(mode, i, n int) int {
	at, up := 0, true
	for k := range max(i, -i) {
		switch {
		case mode == api.Clamp && i > 0:
			at = min(at+1, n-1)
		case mode == api.Repeat && i > 0:
			at = (at + 1) % n
		case mode == api.Repeat:
			at = (at + n - 1) % n
		case mode == api.Mirror && i < 0 && k == 0:
		case mode == api.Mirror && up && at == n-1, mode == api.Mirror && !up && at == 0:
			up = !up
		case mode == api.Mirror && up:
			at++
		case mode == api.Mirror:
			at--
		}
	}
	return at
}

// P9.1: all numbers of places, three times to each side.
func TestWrapSteps(t *testing.T) {
	for n := 1; n <= api.MaxSide; n++ {
		for i := -3*n - 1; i <= 3*n+1; i++ {
			for _, mode := range []int{api.Repeat, api.Clamp, api.Mirror} {
				if got, want := sample.Wrap(mode, i, n), wrapped(mode, i, n); got != want {
					t.Errorf("Wrap(%d, %d, %d) = %d; want %d", mode, i, n, got, want)
				}
			}
		}
	}
}

// board answers an image of L8 of 3 times 2 pixels: 1 2 3 (below), 4 5 6 (above).
func board(wrapS, wrapT int) api.Image {
	return api.Image{Format: api.L8, Levels: []api.Level{flat(3, 2, 1)}, WrapS: wrapS, WrapT: wrapT, Min: api.Nearest, Mag: api.Nearest}
}

// P9.1: each wrap in each direction, of sides that differ: what stands to the left, right, below and above.
func TestTexelWraps(t *testing.T) {
	across := map[int][]int{api.Repeat: {1, 2, 0, 1, 2, 0, 1, 2, 0, 1}, api.Clamp: {0, 0, 0, 1, 2, 2, 2, 2, 2, 2}, api.Mirror: {1, 0, 0, 1, 2, 2, 1, 0, 0, 1}}
	along := map[int][]int{api.Repeat: {0, 1, 0, 1, 0, 1, 0, 1}, api.Clamp: {0, 0, 0, 1, 1, 1, 1, 1}, api.Mirror: {1, 0, 0, 1, 1, 0, 0, 1}}
	for s, columns := range across {
		for w, rows := range along {
			x := board(s, w)
			for k, column := range columns {
				for m, row := range rows {
					got, err := sample.Texel(x, 0, k-2, m-2)
					told(t, "Texel at "+number(k-2)+", "+number(m-2)+", wraps "+number(s)+", "+number(w), got, err, grey(byte(1+3*row+column)))
				}
			}
		}
	}
}

// P9.1: pixels far off, in each direction.
func TestTexelFar(t *testing.T) {
	rows := []struct {
		wrapS, wrapT, i, j int
		want               byte
	}{
		{api.Repeat, api.Repeat, math.MaxInt, math.MaxInt, 5},
		{api.Repeat, api.Repeat, math.MinInt, math.MinInt, 2},
		{api.Clamp, api.Clamp, math.MaxInt, math.MaxInt, 6},
		{api.Clamp, api.Clamp, math.MinInt, math.MaxInt, 4},
		{api.Clamp, api.Clamp, math.MaxInt, math.MinInt, 3},
		{api.Clamp, api.Clamp, math.MinInt, math.MinInt, 1},
		{api.Mirror, api.Mirror, math.MaxInt, math.MaxInt, 2},
		{api.Mirror, api.Mirror, math.MinInt, math.MinInt, 2},
		{api.Mirror, api.Repeat, math.MaxInt, math.MaxInt, 5},
		{api.Clamp, api.Mirror, math.MaxInt, math.MinInt + 1, 6},
	}
	for _, r := range rows {
		got, err := sample.Texel(board(r.wrapS, r.wrapT), 0, r.i, r.j)
		told(t, "Texel at "+number(r.i)+", "+number(r.j), got, err, grey(r.want))
	}
}

// P9.1: images of each format, and levels of other sides than level 0 has.
func TestTexelFormats(t *testing.T) {
	rows := []struct {
		format int
		bytes  []byte
		want   [2]api.Vec
	}{
		{api.RGBA8, []byte{0, 255, 0, 255, 255, 0, 128, 0}, [2]api.Vec{{0, api.One, 0, api.One}, {api.One, 0, 32897, 0}}},
		{api.RGB565, []byte{0x00, 0xF8, 0x1F, 0x00}, [2]api.Vec{{api.One, 0, 0, api.One}, {0, 0, api.One, api.One}}},
		{api.RGBA4, []byte{0x0F, 0x00, 0xF0, 0xF0}, [2]api.Vec{{0, 0, 0, api.One}, {api.One, 0, api.One, 0}}},
		{api.RGB5A1, []byte{0x01, 0x00, 0xC0, 0x07}, [2]api.Vec{{0, 0, 0, api.One}, {0, api.One, 0, 0}}},
		{api.L8, []byte{255, 0}, [2]api.Vec{{api.One, api.One, api.One, api.One}, {0, 0, 0, api.One}}},
		{api.A8, []byte{255, 128}, [2]api.Vec{{0, 0, 0, api.One}, {0, 0, 0, 32897}}},
		{api.LA8, []byte{255, 0, 0, 255}, [2]api.Vec{{api.One, api.One, api.One, 0}, {0, 0, 0, api.One}}},
	}
	for _, r := range rows {
		x := api.Image{Format: r.format, WrapS: api.Clamp, WrapT: api.Clamp, Min: api.Nearest, Mag: api.Nearest}
		x.Levels = []api.Level{{W: 2, H: 1, Bytes: r.bytes}, {}, {W: 1, H: 2, Bytes: r.bytes}}
		for k, want := range r.want {
			got, err := sample.Texel(x, 0, k, 0)
			told(t, "Texel of format "+number(r.format), got, err, want)
			got, err = sample.Texel(x, 2, 0, k)
			told(t, "Texel of level 2, format "+number(r.format), got, err, want)
		}
	}
}
