package sample

import (
	"paintbox/api"
	"paintbox/fix"
	"paintbox/image"
	"paintbox/pixel"
)

// refusal answers why that level of an image has no colours.
func refusal(x api.Image, level int) api.Errno {
	if err := image.Check(x); err != api.OK {
		return err
	}
	if level < 0 || level >= len(x.Levels) || x.Levels[level].W == 0 {
		return api.ErrNone
	}
	return api.OK
}

// asked answers which level of a complete image a lod asks for, and whether its nearest or its linear colour.
func asked(x api.Image, lod api.Fix) (level, mode int) {
	if lod <= 0 {
		return 0, x.Mag
	}
	switch x.Min {
	case api.NearestMip:
		return levelOf(x, lod), api.Nearest
	case api.LinearMip:
		return levelOf(x, lod), api.Linear
	}
	return 0, x.Min
}

// levelOf answers the level of a lod; those behind the last one of Count are none of its levels, even if they are there.
func levelOf(x api.Image, lod api.Fix) int {
	l := x.Levels[0]
	return Wrap(api.Clamp, (int(lod)+32768)>>16, image.Count(l.W, l.H))
}

// between answers which pixel's middle lies last at or before a place in a side, and how far behind it the place lies.
func between(side int, place api.Fix) (i int, part int64) {
	p := side*int(place) - 32768
	i = p >> 16
	return i, int64(p - i<<16)
}

// colour answers the colour of a level of an image at whole i, j.
func colour(x api.Image, l api.Level, i, j int) api.Vec {
	size := pixel.Size(x.Format)
	at := (Wrap(x.WrapT, j, l.H)*l.W + Wrap(x.WrapS, i, l.W)) * size
	c, _ := pixel.Unpack(x.Format, l.Bytes[at:at+size])
	return c
}

// blend answers four colours together, each of them the more the nearer it is; all products stand in int64, so it is rounded but once.
func blend(four [4]api.Vec, f, g int64) api.Vec {
	const one = int64(api.One)
	shares := [4]int64{(one - f) * (one - g), f * (one - g), (one - f) * g, f * g}
	var c api.Vec
	for channel := range len(c) {
		sum := int64(1) << 31
		for k := range len(four) {
			sum += int64(four[k][channel]) * shares[k]
		}
		c[channel] = fix.Raw(sum >> 32)
	}
	return c
}

// modulo answers i modulo n, from 0 on: % goes below 0 with i.
func modulo(i, n int) int {
	m := i % n
	if m < 0 {
		m += n
	}
	return m
}
