package image_test

import (
	"bytes"
	"testing"

	"paintbox/api"
	"paintbox/image"
	"paintbox/pixel"
)

// formed answers an image of one level.
func formed(format, w, h int, b ...byte) api.Image {
	x := grey(api.Level{W: w, H: h, Bytes: b})
	x.Format = format
	return x
}

// P8.4: means that are rounded, of four and of two, in one format of one channel.
func TestMeans(t *testing.T) {
	rows := []struct {
		w, h int
		b    []byte
		want []byte
	}{
		{2, 2, []byte{0, 1, 2, 4}, []byte{2}},
		{2, 2, []byte{0, 0, 0, 1}, []byte{0}},
		{2, 2, []byte{1, 0, 0, 1}, []byte{1}},
		{2, 2, []byte{1, 1, 0, 1}, []byte{1}},
		{2, 2, []byte{0, 1, 2, 2}, []byte{1}},
		{2, 2, []byte{0, 1, 2, 3}, []byte{2}},
		{2, 2, []byte{255, 255, 255, 255}, []byte{255}},
		{2, 2, []byte{255, 255, 255, 254}, []byte{255}},
		{2, 2, []byte{255, 255, 254, 254}, []byte{255}},
		{2, 2, []byte{255, 254, 254, 254}, []byte{254}},
		{2, 1, []byte{0, 1}, []byte{1}},
		{2, 1, []byte{1, 0}, []byte{1}},
		{2, 1, []byte{0, 2}, []byte{1}},
		{2, 1, []byte{254, 255}, []byte{255}},
		{1, 2, []byte{0, 1}, []byte{1}},
		{1, 2, []byte{7, 8}, []byte{8}},
		{1, 2, []byte{255, 255}, []byte{255}},
		{4, 1, []byte{0, 1, 10, 20}, []byte{1, 15}},
		{1, 4, []byte{0, 1, 10, 20}, []byte{1, 15}},
		{4, 2, []byte{0, 1, 10, 20, 2, 4, 30, 41}, []byte{2, 25}},
		{2, 4, []byte{0, 1, 2, 4, 10, 20, 30, 41}, []byte{2, 25}},
		{4, 4, []byte{0, 1, 10, 20, 2, 4, 30, 41, 5, 5, 6, 7, 5, 6, 7, 7}, []byte{2, 25, 5, 7}},
	}
	for _, r := range rows {
		for _, format := range []int{api.L8, api.A8} {
			got, err := image.Generate(formed(format, r.w, r.h, r.b...))
			is(t, "Generate", err, api.OK)
			if err != api.OK || len(got.Levels) < 2 || !bytes.Equal(got.Levels[1].Bytes, r.want) {
				t.Errorf("Generate of % x: %v; want % x", r.b, got, r.want)
			}
		}
	}
}

// P8.4: the mean goes channel by channel in each format; nothing is carried from one to the next.
func TestMeansFormats(t *testing.T) {
	rows := []struct {
		format, w, h int
		b, want      []byte
	}{
		{api.RGBA8, 2, 1, []byte{0, 1, 254, 255, 1, 2, 255, 255}, []byte{1, 2, 255, 255}},
		{api.RGBA8, 1, 2, []byte{255, 0, 255, 0, 255, 0, 254, 0}, []byte{255, 0, 255, 0}},
		{api.RGB565, 2, 1, []byte{0x00, 0xF8, 0x1F, 0x00}, []byte{0x10, 0x80}},
		{api.RGB565, 2, 1, []byte{0xE0, 0x07, 0x00, 0x00}, []byte{0x00, 0x04}},
		{api.RGB565, 2, 1, []byte{0xFF, 0xFF, 0xFF, 0xFF}, []byte{0xFF, 0xFF}},
		{api.RGBA4, 2, 1, []byte{0x0F, 0xF0, 0xF0, 0x0F}, []byte{0x88, 0x88}},
		{api.RGBA4, 1, 2, []byte{0x21, 0x43, 0x32, 0x54}, []byte{0x32, 0x54}},
		{api.RGB5A1, 2, 1, []byte{0x01, 0x00, 0x00, 0x00}, []byte{0x01, 0x00}},
		{api.RGB5A1, 2, 2, []byte{1, 0, 0, 0, 0, 0, 0, 0}, []byte{0, 0}},
		{api.RGB5A1, 2, 2, []byte{1, 0, 1, 0, 0, 0, 0, 0}, []byte{1, 0}},
		{api.RGB5A1, 2, 1, []byte{0x3E, 0x00, 0xC0, 0x07}, []byte{0x20, 0x04}},
		{api.RGB5A1, 2, 1, []byte{0x00, 0xF8, 0x00, 0x00}, []byte{0x00, 0x80}},
		{api.LA8, 2, 1, []byte{0, 255, 1, 254}, []byte{1, 255}},
		{api.LA8, 2, 2, []byte{0, 255, 0, 255, 0, 255, 1, 254}, []byte{0, 255}},
	}
	for _, r := range rows {
		got, err := image.Generate(formed(r.format, r.w, r.h, r.b...))
		if err != api.OK || len(got.Levels) != 2 || !bytes.Equal(got.Levels[1].Bytes, r.want) {
			t.Errorf("Generate of format %d, % x: %v, %d; want % x", r.format, r.b, got, err, r.want)
		}
	}
}

// parts answers the channels of a format: of which of a colour's numbers, and how many bits, by the chapter's table.
func parts(format int) (places, bits []int) {
	switch format {
	case api.RGB565:
		return []int{0, 1, 2}, []int{5, 6, 5}
	case api.RGBA4:
		return []int{0, 1, 2, 3}, []int{4, 4, 4, 4}
	case api.RGB5A1:
		return []int{0, 1, 2, 3}, []int{5, 5, 5, 1}
	case api.L8:
		return []int{0}, []int{8}
	case api.A8:
		return []int{3}, []int{8}
	case api.LA8:
		return []int{0, 3}, []int{8, 8}
	}
	return []int{0, 1, 2, 3}, []int{8, 8, 8, 8}
}

// blended answers the mean of some pixels by way of their colours.
func blended(format int, group [][]byte) []byte {
	var mean api.Vec
	places, bits := parts(format)
	for i, place := range places {
		sum := uint32(len(group)) / 2
		for _, b := range group {
			c, _ := pixel.Unpack(format, b)
			n, _ := pixel.Bits(c[place], bits[i])
			sum += n
		}
		mean[place], _ = pixel.Number(sum/uint32(len(group)), bits[i])
	}
	b, _ := pixel.Pack(format, mean)
	return b
}

// shrunk answers the level that follows from one, in the chapter's words.
func shrunk(format int, l api.Level) api.Level {
	size := pixel.Size(format)
	m := api.Level{W: sized(l.W, 1), H: sized(l.H, 1)}
	for y := range m.H {
		for x := range m.W {
			var group [][]byte
			for _, at := range [][2]int{{2 * x, 2 * y}, {2*x + 1, 2 * y}, {2 * x, 2*y + 1}, {2*x + 1, 2*y + 1}} {
				if at[0] < l.W && at[1] < l.H {
					i := (at[1]*l.W + at[0]) * size
					group = append(group, l.Bytes[i:i+size])
				}
			}
			m.Bytes = append(m.Bytes, blended(format, group)...)
		}
	}
	return m
}

// generated answers Generate of an image of powers of 2, in the chapter's words.
func generated(x api.Image) api.Image {
	l := x.Levels[0]
	levels := []api.Level{l}
	for l.W > 1 || l.H > 1 {
		l = shrunk(x.Format, l)
		levels = append(levels, l)
	}
	x.Levels = levels
	return x
}

// P8.4, P8.5: all sides of powers of 2, in each format, of bytes of chance; what is generated is complete, and generated once more the same.
func TestGenerate(t *testing.T) {
	c := chance(8)
	for _, w := range []int{1, 2, 4, 8, 16, 32, 64} {
		for _, h := range []int{1, 2, 4, 8, 16, 32, 64} {
			for format := api.RGBA8; format <= api.LA8; format++ {
				x := formed(format, w, h, c.bytes(w*h*sizes()[format])...)
				x.WrapS, x.WrapT, x.Min, x.Mag = 1+c.below(3), 1+c.below(3), 1+c.below(4), 1+c.below(2)
				what := "Generate of " + number(w) + " times " + number(h) + ", format " + number(format)
				y, err := image.Generate(x)
				taken(t, what, y, err, generated(x))
				is(t, what, image.Check(y), api.OK)
				if !image.Complete(y) || len(y.Levels) != image.Count(w, h) {
					t.Errorf("%s: not complete: %d levels", what, len(y.Levels))
				}
				z, err := image.Generate(y)
				taken(t, what+" once more", z, err, y)
			}
		}
	}
}

// P8.4: Generate lets all other levels go, those behind the last it makes too.
func TestGenerateAnew(t *testing.T) {
	base := api.Level{W: 2, H: 2, Bytes: []byte{0, 1, 2, 4}}
	want := grey(base, api.Level{W: 1, H: 1, Bytes: []byte{2}})
	for _, rest := range [][]api.Level{nil, {flat(1, 1, 1)}, {{}, flat(2, 2, 1)}, {flat(9, 9, 1), flat(3, 1, 1), {}, {}, {}, flat(64, 64, 1)}} {
		got, err := image.Generate(grey(append([]api.Level{base}, rest...)...))
		taken(t, "Generate", got, err, want)
	}
	one := grey(flat(1, 1, 1), flat(1, 1, 1), flat(2, 2, 1))
	got, err := image.Generate(one)
	taken(t, "Generate of one pixel", got, err, grey(flat(1, 1, 1)))
}

// P8.4: what Generate refuses.
func TestGenerateWrong(t *testing.T) {
	got, err := image.Generate(image.New())
	refused(t, "Generate without levels", got, err, api.ErrNone)
	got, err = image.Generate(grey(api.Level{}, flat(3, 3, 1)))
	refused(t, "Generate without level 0", got, err, api.ErrNone)
	for w := 1; w <= 64; w++ {
		for h := 1; h <= 64; h++ {
			got, err := image.Generate(grey(flat(w, h, 1)))
			if isPower(w) && isPower(h) {
				is(t, "Generate", err, api.OK)
				continue
			}
			refused(t, "Generate of "+number(w)+" times "+number(h), got, err, api.ErrArg)
		}
	}
	clamped := grey(flat(3, 2, 1))
	clamped.WrapS, clamped.WrapT, clamped.Min = api.Clamp, api.Clamp, api.Nearest
	got, err = image.Generate(clamped)
	refused(t, "Generate of what is complete, but of no power", got, err, api.ErrArg)
}

// P8.5: a level 0 of one colour has all levels of that colour; all colours of one and of two bytes, and some of four.
func TestOneColour(t *testing.T) {
	c := chance(9)
	for format := api.RGBA8; format <= api.LA8; format++ {
		size := sizes()[format]
		count := map[int]int{1: 256, 2: 65536, 4: 2000}[size]
		for i := range count {
			colour := []byte{byte(i), byte(i >> 8), 0, 0}[:size]
			if size == 4 {
				colour = c.bytes(4)
			}
			x := formed(format, 4, 2, bytes.Repeat(colour, 8)...)
			y, err := image.Generate(x)
			if err != api.OK || len(y.Levels) != 3 || !bytes.Equal(y.Levels[1].Bytes, bytes.Repeat(colour, 2)) || !bytes.Equal(y.Levels[2].Bytes, colour) {
				t.Fatalf("Generate of one colour % x of format %d: %v, %d", colour, format, y, err)
			}
		}
	}
}
