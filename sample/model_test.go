package sample_test

import (
	"testing"

	"paintbox/api"
	"paintbox/image"
	"paintbox/pixel"
	"paintbox/sample"
)

// chance answers numbers that look like chance and are the same each time.
type chance uint64

// below answers a number from 0 to n less one.
func (c *chance) below(n int) int {
	*c = *c*6364136223846793005 + 1442695040888963407
	return int(uint64(*c)>>33) % n
}

// bytes answers so many bytes.
func (c *chance) bytes(n int) []byte {
	list := make([]byte, n)
	for i := range list {
		list[i] = byte(c.below(256))
	}
	return list
}

// place answers a number along a side: any there is, one near 0, or one at or beside the bounds and the middles of pixels.
func (c *chance) place(side int) api.Fix {
	switch c.below(4) {
	case 0:
		return api.Fix(uint32(c.below(65536))<<16 | uint32(c.below(65536)))
	case 1:
		return api.Fix(c.below(4*65536) - 2*65536)
	case 2:
		return []api.Fix{0, api.One, api.Most, api.Least, -1, 1, api.One - 1, -api.One}[c.below(8)]
	}
	return api.Fix((c.below(8*side)-4*side)*32768/side + c.below(3) - 1)
}

// side answers a side of a level, most often a power of 2.
func (c *chance) side() int {
	return []int{1, 2, 4, 8, 16, 32, 64, 3, 5, 63, 1, 2}[c.below(12)]
}

// image answers an image whose level 0 is there, and at times all others.
func (c *chance) image() api.Image {
	format, w, h := 1+c.below(7), c.side(), c.side()
	l := api.Level{W: w, H: h, Bytes: c.bytes(w * h * pixel.Size(format))}
	x := api.Image{Format: format, Levels: []api.Level{l}, WrapS: 1 + c.below(3), WrapT: 1 + c.below(3), Min: 1 + c.below(4), Mag: 1 + c.below(2)}
	for n := 1; n < image.Count(w, h) && c.below(9) > 0; n++ {
		w, h := max(1, w>>n), max(1, h>>n)
		if c.below(30) == 0 {
			w = c.side()
		}
		x.Levels = append(x.Levels, api.Level{W: w, H: h, Bytes: c.bytes(w * h * pixel.Size(format))})
	}
	return x
}

// down answers p over q, rounded down.
func down(p, q int64) int64 {
	if p < 0 {
		return -((-p + q - 1) / q)
	}
	return p / q
}

// folded is Wrap in the chapter's words, for numbers that are not far off.
func folded(mode, i, n int) int {
	switch mode {
	case api.Repeat:
		return i - n*int(down(int64(i), int64(n)))
	case api.Clamp:
		if i < 0 {
			return 0
		}
		if i > n-1 {
			return n - 1
		}
		return i
	}
	m := i - 2*n*int(down(int64(i), int64(2*n)))
	if m < n {
		return m
	}
	return 2*n - 1 - m
}

// texel is the colour of a level in the chapter's words.
func texel(x api.Image, level, i, j int) api.Vec {
	l := x.Levels[level]
	b, _ := image.Get(x, level, api.Piece{X: folded(x.WrapS, i, l.W), Y: folded(x.WrapT, j, l.H), W: 1, H: 1})
	c, _ := pixel.Unpack(x.Format, b)
	return c
}

// nearest is the nearest colour in the chapter's words.
func nearest(x api.Image, level int, u, v api.Fix) api.Vec {
	l := x.Levels[level]
	return texel(x, level, int(down(int64(l.W)*int64(u), 65536)), int(down(int64(l.H)*int64(v), 65536)))
}

// linear is the linear colour in the chapter's words.
func linear(x api.Image, level int, u, v api.Fix) api.Vec {
	l := x.Levels[level]
	p, q := int64(l.W)*int64(u)-32768, int64(l.H)*int64(v)-32768
	i, j := down(p, 65536), down(q, 65536)
	f, g := p-65536*i, q-65536*j
	a, b := texel(x, level, int(i), int(j)), texel(x, level, int(i)+1, int(j))
	c, d := texel(x, level, int(i), int(j)+1), texel(x, level, int(i)+1, int(j)+1)
	var out api.Vec
	for k := range 4 {
		sum := int64(a[k])*(65536-f)*(65536-g) + int64(b[k])*f*(65536-g) + int64(c[k])*(65536-f)*g + int64(d[k])*f*g
		out[k] = api.Fix(down(sum+1<<31, 1<<32))
	}
	return out
}

// at is At in the chapter's words.
func at(x api.Image, u, v, lod api.Fix) api.Vec {
	if !image.Complete(x) {
		return api.Vec{0, 0, 0, 65536}
	}
	mode, level := x.Mag, 0
	if lod > 0 {
		mode = x.Min
	}
	if mode == api.NearestMip || mode == api.LinearMip {
		level = int(down(int64(lod)+32768, 65536))
		level = max(0, min(level, image.Count(x.Levels[0].W, x.Levels[0].H)-1))
	}
	if mode == api.Nearest || mode == api.NearestMip {
		return nearest(x, level, u, v)
	}
	return linear(x, level, u, v)
}

// lod answers a lod by chance: near the bounds of levels most often.
func (c *chance) lod() api.Fix {
	switch c.below(3) {
	case 0:
		return api.Fix(c.below(9*65536) - 65536)
	case 1:
		return api.Fix((c.below(18)-2)*32768 + c.below(3) - 1)
	}
	return c.place(1)
}

// P9.1 to P9.3: chance images at chance places, held against the chapter's words.
func TestChance(t *testing.T) {
	c := chance(9)
	for range 4000 {
		x := c.image()
		level := c.below(len(x.Levels))
		l := x.Levels[level]
		for range 6 {
			u, v, lod := c.place(l.W), c.place(l.H), c.lod()
			i, j := c.below(400)-200, c.below(400)-200
			got, err := sample.Texel(x, level, i, j)
			told(t, "Texel", got, err, texel(x, level, i, j))
			got, err = sample.Nearest(x, level, u, v)
			told(t, "Nearest", got, err, nearest(x, level, u, v))
			got, err = sample.Linear(x, level, u, v)
			told(t, "Linear", got, err, linear(x, level, u, v))
			got, err = sample.At(x, u, v, lod)
			told(t, "At", got, err, at(x, u, v, lod))
			if t.Failed() {
				t.Fatalf("of %v, level %d, at %d, %d, lod %d", x, level, u, v, lod)
			}
		}
	}
}
