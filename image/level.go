package image

import (
	"iter"
	"slices"

	"paintbox/api"
	"paintbox/pixel"
)

// duplicate answers an image that is the same and shares no memory with this one.
func duplicate(x api.Image) api.Image {
	x.Levels = slices.Clone(x.Levels)
	for i := range x.Levels {
		x.Levels[i].Bytes = slices.Clone(x.Levels[i].Bytes)
	}
	return x
}

// blank answers a level of noughts, with so many bytes for each pixel.
func blank(w, h, size int) api.Level {
	return api.Level{W: w, H: h, Bytes: make([]byte, w*h*size)}
}

// half answers a level's side in the next level. It is the same, halved each time anew, as the side of level 0 over 2^n: both are rounded down.
func half(side int) int {
	return max(1, side/2)
}

// places tells the pixels of a piece that lies in a level, row by row from below, each by how many of the level stand ahead of it.
func places(l api.Level, p api.Piece) iter.Seq[int] {
	return func(yield func(int) bool) {
		for y := p.Y; y < p.Y+p.H; y++ {
			for x := p.X; x < p.X+p.W; x++ {
				if !yield(y*l.W + x) {
					return
				}
			}
		}
	}
}

// cell answers the bytes of pixel i, each having so many.
func cell(b []byte, i, size int) []byte {
	return b[i*size : (i+1)*size]
}

// chain answers a level and all that follow from it, down to sides of 1 and 1.
func chain(l api.Level, format int) []api.Level {
	levels := []api.Level{l}
	for n := 1; n < Count(l.W, l.H); n++ {
		levels = append(levels, next(levels[n-1], format))
	}
	return levels
}

// next answers the level that follows from one whose sides are powers of 2, not both of them 1.
func next(l api.Level, format int) api.Level {
	size, bits := pixel.Size(format), widths(format)
	small := blank(half(l.W), half(l.H), size)
	for y := range small.H {
		for x := range small.W {
			var group []uint32
			for place := range places(l, api.Piece{X: 2 * x, Y: 2 * y, W: min(2, l.W), H: min(2, l.H)}) {
				group = append(group, number(cell(l.Bytes, place, size)))
			}
			lay(cell(small.Bytes, y*small.W+x, size), mean(group, bits))
		}
	}
	return small
}

// mean answers the mean of some pixels, channel by channel. Both they and it are whole pixels, each as one number.
func mean(group []uint32, bits []int) uint32 {
	count := uint32(len(group))
	together := func(below, k int) uint32 {
		sum := count / 2
		for _, one := range group {
			sum += one >> below & (1<<k - 1)
		}
		return sum / count
	}
	var whole uint32
	below := 0
	for _, k := range bits {
		whole |= together(below, k) << below
		below += k
	}
	return whole
}

// widths answers how many bits the channels of a format have, the lowest first, its pixel being taken as one number.
func widths(format int) []int {
	switch format {
	case api.RGBA8:
		return []int{8, 8, 8, 8}
	case api.RGB565:
		return []int{5, 6, 5}
	case api.RGBA4:
		return []int{4, 4, 4, 4}
	case api.RGB5A1:
		return []int{1, 5, 5, 5}
	case api.LA8:
		return []int{8, 8}
	}
	return []int{8} // L8 and A8
}

// number answers a pixel's bytes as one number.
func number(b []byte) uint32 {
	var whole uint32
	for i, x := range b {
		whole |= uint32(x) << (8 * i)
	}
	return whole
}

// lay puts a number into a pixel's bytes.
func lay(b []byte, whole uint32) {
	for i := range b {
		b[i] = byte(whole >> (8 * i))
	}
}
