package image

import (
	"paintbox/api"
	"paintbox/pixel"
)

// takes answers whether a parameter may have that value; none has one that is no parameter.
func takes(which, value int) bool {
	switch which {
	case api.ParamWrapS, api.ParamWrapT:
		return value >= api.Repeat && value <= api.Mirror
	case api.ParamMin:
		return value >= api.Nearest && value <= api.LinearMip
	case api.ParamMag:
		return value == api.Nearest || value == api.Linear
	}
	return false
}

// putRefusal answers why Put can't take what it is handed: OK, if it can.
func putRefusal(x api.Image, level, format int, l api.Level) api.Errno {
	size := pixel.Size(format)
	switch {
	case Check(x) != api.OK:
		return api.ErrImage
	case level < 0, level >= api.MaxLevels, size == 0, !isSide(l.W), !isSide(l.H):
		return api.ErrArg
	case len(l.Bytes) != 0 && len(l.Bytes) != l.W*l.H*size:
		return api.ErrShort
	case level != 0 && len(x.Levels) > 0 && format != x.Format:
		return api.ErrFormat
	}
	return api.OK
}

// pieceRefusal answers why there is no such piece of that level: OK, if there is.
func pieceRefusal(x api.Image, level int, p api.Piece) api.Errno {
	switch {
	case Check(x) != api.OK:
		return api.ErrImage
	case !has(x, level):
		return api.ErrNone
	case !lies(x.Levels[level], p):
		return api.ErrArg
	}
	return api.OK
}

// firstWrong answers the place of the first level that is neither there, with all its bytes, nor not there: how many levels there are, if none is so. The sides are held against their bounds ahead of their product, which could pass the greatest number.
func firstWrong(levels []api.Level, size int) int {
	place := 0
search:
	for ; place < len(levels); place++ {
		l := levels[place]
		switch {
		case l.W == 0 && l.H == 0 && len(l.Bytes) == 0:
		case isSide(l.W) && isSide(l.H) && len(l.Bytes) == l.W*l.H*size:
		default:
			break search
		}
	}
	return place
}

// has answers whether a level is there, in an image whose levels all may be.
func has(x api.Image, level int) bool {
	return level >= 0 && level < len(x.Levels) && x.Levels[level].W > 0
}

// lies answers whether a piece lies in a level.
func lies(l api.Level, p api.Piece) bool {
	return within(p.X, p.W, l.W) && within(p.Y, p.H, l.H)
}

// within answers whether n from at on lie within so much room; at and n are not added, for their sum could pass the greatest number.
func within(at, n, room int) bool {
	return at >= 0 && at <= room && n >= 0 && n <= room-at
}

// isSide answers whether a level that is there may have such a side.
func isSide(n int) bool {
	return n >= 1 && n <= api.MaxSide
}

// hasPowers answers whether both sides of a level that is there are powers of 2.
func hasPowers(l api.Level) bool {
	return l.W&(l.W-1) == 0 && l.H&(l.H-1) == 0
}

// isChain answers whether all levels are there that follow from level 0, which is, each with the sides that it has to have. Those behind the last of them are not asked.
func isChain(levels []api.Level) bool {
	w, h := levels[0].W, levels[0].H
	count := Count(w, h)
	if len(levels) < count {
		return false
	}
	for _, l := range levels[:count] {
		if l.W != w || l.H != h {
			return false
		}
		w, h = half(w), half(h)
	}
	return true
}
