package sample_test

import (
	"testing"

	"paintbox/api"
	"paintbox/pixel"
	"paintbox/sample"
)

// P9.2: the nearest colour: at 0, at and around the bounds of pixels, at One, below 0, between pixels.
func TestNearest(t *testing.T) {
	rows := []struct {
		wrapS, wrapT int
		u, v         api.Fix
		want         byte
	}{
		{api.Clamp, api.Clamp, 0, 0, 1},
		{api.Clamp, api.Clamp, 21845, 0, 1}, // 3 times 21845 is 65535
		{api.Clamp, api.Clamp, 21846, 0, 2},
		{api.Clamp, api.Clamp, 43690, 0, 2}, // 3 times 43690 is 131070
		{api.Clamp, api.Clamp, 43691, 0, 3},
		{api.Clamp, api.Clamp, api.One - 1, 0, 3},
		{api.Clamp, api.Clamp, api.One, 0, 3},
		{api.Clamp, api.Clamp, -1, 0, 1},
		{api.Clamp, api.Clamp, 0, 32767, 1},
		{api.Clamp, api.Clamp, 0, 32768, 4},
		{api.Clamp, api.Clamp, 0, api.One - 1, 4},
		{api.Clamp, api.Clamp, 0, api.One, 4},
		{api.Clamp, api.Clamp, 0, -1, 1},
		{api.Clamp, api.Clamp, 32768, 49152, 5},
		{api.Repeat, api.Repeat, api.One, 0, 1},
		{api.Repeat, api.Repeat, -1, 0, 3},
		{api.Repeat, api.Repeat, -21845, 0, 3}, // -65535
		{api.Repeat, api.Repeat, -21846, 0, 2}, // -65538
		{api.Repeat, api.Repeat, -api.One, -api.One, 1},
		{api.Repeat, api.Repeat, -api.One - 1, -api.One - 1, 6},
		{api.Repeat, api.Repeat, 0, api.One, 1},
		{api.Repeat, api.Repeat, 0, -1, 4},
		{api.Repeat, api.Repeat, 0, -32768, 4},
		{api.Repeat, api.Repeat, 0, -32769, 1},
		{api.Mirror, api.Mirror, api.One, api.One, 6},
		{api.Mirror, api.Mirror, -1, -1, 1},
		{api.Mirror, api.Mirror, 2*api.One - 1, 2*api.One - 1, 1},
		{api.Mirror, api.Mirror, 2 * api.One, 2 * api.One, 1},
		{api.Mirror, api.Mirror, -21846, -32769, 5},
		{api.Repeat, api.Clamp, -1, -1, 3},
		{api.Clamp, api.Repeat, -1, -1, 4},
		{api.Mirror, api.Repeat, api.One, api.One, 3},
		{api.Repeat, api.Mirror, api.One, api.One, 4},
	}
	for _, r := range rows {
		got, err := sample.Nearest(board(r.wrapS, r.wrapT), 0, r.u, r.v)
		told(t, "Nearest at "+number(int(r.u))+", "+number(int(r.v))+", wraps "+number(r.wrapS)+", "+number(r.wrapT), got, err, grey(r.want))
	}
}

// P9.2: places at the greatest and the least numbers. The greatest is 32768, less 1 raw: in 3 pixels the last one of a whole, of an odd one.
func TestFarPlaces(t *testing.T) {
	rows := []struct {
		wrap int
		u, v api.Fix
		want byte
	}{
		{api.Repeat, api.Most, api.Most, 6}, {api.Repeat, api.Least, api.Least, 1}, {api.Repeat, api.Most, api.Least, 3}, {api.Repeat, api.Least, api.Most, 4},
		{api.Clamp, api.Most, api.Most, 6}, {api.Clamp, api.Least, api.Least, 1}, {api.Clamp, api.Most, api.Least, 3}, {api.Clamp, api.Least, api.Most, 4},
		{api.Mirror, api.Most, api.Most, 1}, {api.Mirror, api.Least, api.Least, 1}, {api.Mirror, api.Least + 65536, api.Least + 65536, 6},
	}
	for _, r := range rows {
		got, err := sample.Nearest(board(r.wrap, r.wrap), 0, r.u, r.v)
		told(t, "Nearest at "+number(int(r.u))+", "+number(int(r.v))+", wraps "+number(r.wrap), got, err, grey(r.want))
	}
	x := clamped(flat(64, 64, 1))
	for _, r := range []struct {
		u, v api.Fix
		want byte
	}{{api.Most, api.Most, 0}, {api.Least, api.Least, 1}, {api.Most, api.Least, 64}, {api.Least, api.Most, 193}} {
		got, err := sample.Nearest(x, 0, r.u, r.v)
		told(t, "Nearest of the greatest sides", got, err, grey(r.want))
		got, err = sample.Linear(x, 0, r.u, r.v)
		told(t, "Linear of the greatest sides", got, err, grey(r.want))
	}
}

// two answers an image of L8 whose two pixels stand side by side.
func two(wrap int, a, b byte) api.Image {
	return api.Image{Format: api.L8, Levels: []api.Level{{W: 2, H: 1, Bytes: []byte{a, b}}}, WrapS: wrap, WrapT: wrap, Min: api.Linear, Mag: api.Linear}
}

// above answers the same image, its pixels standing one above the other.
func above(x api.Image) api.Image {
	x.Levels = []api.Level{{W: 1, H: 2, Bytes: x.Levels[0].Bytes}}
	return x
}

// P9.2: linear colours along one side, by each wrap: between, at the middle of a pixel, beyond both ends. Of black and white each share is seen.
func TestLinearAlong(t *testing.T) {
	rows := []struct {
		wrap int
		u    api.Fix
		want api.Fix // red
	}{
		{api.Clamp, 16384, 0}, {api.Clamp, 16385, 2}, {api.Clamp, 32768, 32768}, {api.Clamp, 49151, 65534}, {api.Clamp, 49152, 65536},
		{api.Clamp, 49153, 65536}, {api.Clamp, 65536, 65536}, {api.Clamp, 0, 0}, {api.Clamp, -1, 0}, {api.Clamp, 16383, 0},
		{api.Clamp, api.Most, 65536}, {api.Clamp, api.Least, 0},
		{api.Repeat, 0, 32768}, {api.Repeat, 8192, 16384}, {api.Repeat, 16383, 2}, {api.Repeat, -8192, 49152}, {api.Repeat, -16384, 65536}, {api.Repeat, -16385, 65534},
		{api.Repeat, 65536, 32768}, {api.Repeat, 57344, 49152}, {api.Repeat, 49153, 65534}, {api.Repeat, 65536 + 16384, 0},
		{api.Repeat, api.Most, 32770}, {api.Repeat, api.Least, 32768},
		{api.Mirror, 0, 0}, {api.Mirror, -16384, 0}, {api.Mirror, -16385, 2}, {api.Mirror, -32768, 32768}, {api.Mirror, 65536, 65536},
		{api.Mirror, 65536 + 16384, 65536}, {api.Mirror, 65536 + 16385, 65534}, {api.Mirror, 65536 + 32768, 32768},
		{api.Mirror, api.Most, 0}, {api.Mirror, api.Least, 0},
	}
	for _, r := range rows {
		x := two(r.wrap, 0, 255)
		want := api.Vec{r.want, r.want, r.want, api.One}
		for _, other := range []api.Fix{0, 32768, -1, 12345, api.Most, api.Least} {
			got, err := sample.Linear(x, 0, r.u, other)
			told(t, "Linear along u at "+number(int(r.u))+", wrap "+number(r.wrap), got, err, want)
			got, err = sample.Linear(above(x), 0, other, r.u)
			told(t, "Linear along v at "+number(int(r.u))+", wrap "+number(r.wrap), got, err, want)
		}
	}
}

// P9.2: which colour has which share: one white pixel of four, the place a quarter from the middle of the first to the right, an eighth up.
func TestLinearShares(t *testing.T) {
	shares := []api.Fix{43008, 14336, 6144, 2048} // of 65536: 3/4 * 7/8, 1/4 * 7/8, 3/4 * 1/8, 1/4 * 1/8
	for k, share := range shares {
		b := make([]byte, 4)
		b[k] = 255
		x := clamped(api.Level{W: 2, H: 2, Bytes: b})
		got, err := sample.Linear(x, 0, 16384+8192, 16384+4096)
		told(t, "Linear, pixel "+number(k), got, err, api.Vec{share, share, share, api.One})
	}
	corner := clamped(api.Level{W: 2, H: 2, Bytes: []byte{0, 0, 0, 255}})
	for _, r := range []struct{ u, v, want api.Fix }{{0, 0, 0}, {65536, 65536, 65536}, {65536, 0, 0}, {0, 65536, 0}, {32768, 32768, 16384}, {65536, 32768, 32768}, {32768, 65536, 32768}} {
		got, err := sample.Linear(corner, 0, r.u, r.v)
		told(t, "Linear at the corner", got, err, api.Vec{r.want, r.want, r.want, api.One})
	}
}

// P9.2: by each wrap of each direction another row or column plays a part.
func TestLinearWraps(t *testing.T) {
	rows := []struct {
		wrapS, wrapT int
		u, v         api.Fix
		want         [4]byte // the four pixels, each a quarter
	}{
		{api.Repeat, api.Repeat, 0, 0, [4]byte{6, 4, 3, 1}},
		{api.Clamp, api.Clamp, 0, 0, [4]byte{1, 1, 1, 1}},
		{api.Mirror, api.Mirror, 0, 0, [4]byte{1, 1, 1, 1}},
		{api.Repeat, api.Clamp, 0, 0, [4]byte{3, 1, 3, 1}},
		{api.Clamp, api.Repeat, 0, 0, [4]byte{4, 4, 1, 1}},
		{api.Mirror, api.Repeat, api.One, api.One, [4]byte{6, 6, 3, 3}},
		{api.Repeat, api.Mirror, api.One, api.One, [4]byte{6, 4, 6, 4}},
		{api.Mirror, api.Mirror, 0, -32768, [4]byte{4, 4, 1, 1}},
	}
	for _, r := range rows {
		x := board(r.wrapS, r.wrapT)
		for i := range x.Levels[0].Bytes {
			x.Levels[0].Bytes[i] = byte(51 * i) // 13107.2 raws each: the means are seen
		}
		sum := 0
		for _, k := range r.want {
			sum += int(grey(byte(51 * (k - 1)))[0])
		}
		want := api.Fix((sum + 2) / 4)
		got, err := sample.Linear(x, 0, r.u, r.v)
		told(t, "Linear, wraps "+number(r.wrapS)+", "+number(r.wrapT), got, err, api.Vec{want, want, want, api.One})
	}
}

// P9.2: where a linear colour is rounded. Of one raw colour and 0 the share is rounded to the nearest raw, halves up.
func TestLinearRounded(t *testing.T) {
	// The byte 1 is 257 raws. At 16384 and k it has the share 2 k / 65536 in a side of 2.
	for k := range 32769 {
		share := int64(2 * k)
		want := api.Fix((257*share + 32768) / 65536)
		got, err := sample.Linear(two(api.Clamp, 0, 1), 0, api.Fix(16384+k), 0)
		told(t, "Linear of 0 and 1 at "+number(k), got, err, api.Vec{want, want, want, api.One})
		if t.Failed() {
			return
		}
	}
	// 1/2 of 257 is 128.5: up; a quarter of 257 is 64.25, of three of them 192.75.
	rows := []struct {
		b    []byte
		want api.Fix
	}{
		{[]byte{1, 0, 0, 0}, 64}, {[]byte{1, 1, 0, 0}, 129}, {[]byte{1, 1, 1, 0}, 193}, {[]byte{0, 1, 0, 1}, 129}, {[]byte{1, 1, 1, 1}, 257}, {[]byte{0, 0, 0, 0}, 0},
		{[]byte{255, 255, 255, 255}, 65536}, {[]byte{255, 255, 255, 254}, 65472}, {[]byte{254, 255, 254, 255}, 65408}, // 254 is 65279 raws: 65536 less 64.25, less 128.5
	}
	for _, r := range rows {
		got, err := sample.Linear(clamped(api.Level{W: 2, H: 2, Bytes: r.b}), 0, 32768, 32768)
		told(t, "Linear in the midst", got, err, api.Vec{r.want, r.want, r.want, api.One})
	}
}

// P9.2: the greatest products and sums: all four of one, at shares that are no whole parts.
func TestLinearGreatest(t *testing.T) {
	white := clamped(api.Level{W: 64, H: 64, Bytes: make([]byte, 64*64)})
	for i := range white.Levels[0].Bytes {
		white.Levels[0].Bytes[i] = 255
	}
	one := api.Vec{api.One, api.One, api.One, api.One}
	for _, wrap := range []int{api.Repeat, api.Clamp, api.Mirror} {
		white.WrapS, white.WrapT = wrap, wrap
		for _, u := range []api.Fix{0, 1, 511, 512, 513, 32767, 32768, 65535, 65536, -1, -511, -513, api.Most, api.Most - 1, api.Least, api.Least + 1} {
			for _, v := range []api.Fix{0, 1, 511, 512, 513, 65536, -1, -513, api.Most, api.Least} {
				got, err := sample.Linear(white, 0, u, v)
				told(t, "Linear of white", got, err, one)
				got, err = sample.Nearest(white, 0, u, v)
				told(t, "Nearest of white", got, err, one)
			}
		}
	}
}

// P9.2: channels do not mix; alpha goes as the others.
func TestLinearChannels(t *testing.T) {
	x := api.Image{Format: api.RGBA8, Levels: []api.Level{{W: 2, H: 1, Bytes: []byte{255, 0, 128, 0, 0, 255, 128, 255}}}, WrapS: api.Clamp, WrapT: api.Clamp, Min: api.Linear, Mag: api.Linear}
	got, err := sample.Linear(x, 0, 24576, 0)
	told(t, "Linear", got, err, api.Vec{49152, 16384, 32897, 16384})
}

// P9.4: of an image of one colour all colours are that; each format.
func TestOneColour(t *testing.T) {
	c := chance(4)
	for range 400 {
		format, w, h := 1+c.below(7), 1+c.below(64), 1+c.below(64)
		b := c.bytes(pixel.Size(format))
		want, _ := pixel.Unpack(format, b)
		l := api.Level{W: w, H: h}
		for range w * h {
			l.Bytes = append(l.Bytes, b...)
		}
		x := api.Image{Format: format, Levels: []api.Level{l}, WrapS: 1 + c.below(3), WrapT: 1 + c.below(3), Min: 1 + c.below(4), Mag: 1 + c.below(2)}
		for range 5 {
			u, v := c.place(w), c.place(h)
			got, err := sample.Linear(x, 0, u, v)
			told(t, "Linear of one colour", got, err, want)
			got, err = sample.Nearest(x, 0, u, v)
			told(t, "Nearest of one colour", got, err, want)
			got, err = sample.Texel(x, 0, c.below(999)-500, c.below(999)-500)
			told(t, "Texel of one colour", got, err, want)
		}
	}
}

// P9.4: at the middle of a pixel, of sides that are powers of 2, Linear and Nearest are that pixel's colour.
func TestMiddles(t *testing.T) {
	c := chance(5)
	for _, w := range []int{1, 2, 4, 8, 16, 32, 64} {
		for _, h := range []int{1, 2, 4, 8, 16, 32, 64} {
			format := 1 + c.below(7)
			l := api.Level{W: w, H: h, Bytes: c.bytes(w * h * pixel.Size(format))}
			x := api.Image{Format: format, Levels: []api.Level{l}, WrapS: 1 + c.below(3), WrapT: 1 + c.below(3), Min: 1, Mag: 1}
			for j := range h {
				for i := range w {
					u, v := api.Fix((2*i+1)*32768/w), api.Fix((2*j+1)*32768/h)
					want, err := sample.Texel(x, 0, i, j)
					told(t, "Texel", want, err, want)
					got, err := sample.Linear(x, 0, u, v)
					told(t, "Linear at a middle", got, err, want)
					got, err = sample.Nearest(x, 0, u, v)
					told(t, "Nearest at a middle", got, err, want)
				}
			}
		}
	}
}

// P9.4: by Repeat whole numbers more change nothing, as long as they are numbers.
func TestWholeMore(t *testing.T) {
	c := chance(6)
	for range 3000 {
		x := c.image()
		x.WrapS, x.WrapT = api.Repeat, api.Repeat
		u, v := api.Fix(c.below(65536)), api.Fix(c.below(65536))
		more := []api.Fix{-32768, -32767, -1, 1, 2, 777, 32767, api.Fix(c.below(65536) - 32768)}
		a, b := more[c.below(8)]*65536, more[c.below(8)]*65536
		for name, ask := range map[string]func(u, v api.Fix) (api.Vec, api.Errno){
			"Nearest": func(u, v api.Fix) (api.Vec, api.Errno) { return sample.Nearest(x, 0, u, v) },
			"Linear":  func(u, v api.Fix) (api.Vec, api.Errno) { return sample.Linear(x, 0, u, v) },
			"At":      func(u, v api.Fix) (api.Vec, api.Errno) { return sample.At(x, u, v, 0) },
		} {
			want, err := ask(u, v)
			told(t, name, want, err, want)
			for _, p := range [][2]api.Fix{{u + a, v}, {u, v + b}, {u + a, v + b}} {
				got, err := ask(p[0], p[1])
				told(t, name+" whole numbers more", got, err, want)
			}
		}
	}
}

// P9.4: a linear colour lies within what the colours of the level are, by channel.
func TestWithin(t *testing.T) {
	c := chance(7)
	for range 2000 {
		x := c.image()
		l := x.Levels[0]
		colours, err := pixel.Row(x.Format, l.Bytes)
		if err != api.OK {
			t.Fatal(err)
		}
		low, high := colours[0], colours[0]
		for _, colour := range colours {
			for k := range 4 {
				low[k], high[k] = min(low[k], colour[k]), max(high[k], colour[k])
			}
		}
		for range 8 {
			got, err := sample.Linear(x, 0, c.place(l.W), c.place(l.H))
			for k := range 4 {
				if err != api.OK || got[k] < low[k] || got[k] > high[k] {
					t.Fatalf("Linear = %v, %d; want within %v and %v", got, err, low, high)
				}
			}
		}
	}
}
