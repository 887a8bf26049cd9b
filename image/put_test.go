package image_test

import (
	"math"
	"strconv"
	"testing"

	"paintbox/api"
	"paintbox/image"
)

// number answers a number as a text.
func number(n int) string {
	return strconv.Itoa(n)
}

// P8.2: Put lays the first level, in each format, with its bytes or with noughts.
func TestPutFirst(t *testing.T) {
	for format, size := range sizes() {
		for _, side := range [][2]int{{1, 1}, {63, 2}, {2, 63}, {64, 1}, {1, 64}, {64, 64}, {3, 5}} {
			l := flat(side[0], side[1], size)
			want := grey(flat(side[0], side[1], size))
			want.Format = format
			got, err := image.Put(image.New(), 0, format, api.Level{W: l.W, H: l.H})
			taken(t, "Put of nil bytes", got, err, want)
			got, err = image.Put(image.New(), 0, format, api.Level{W: l.W, H: l.H, Bytes: []byte{}})
			taken(t, "Put of no bytes", got, err, want)
			for i := range l.Bytes {
				l.Bytes[i] = byte(i*7 + 1)
			}
			copy(want.Levels[0].Bytes, l.Bytes)
			got, err = image.Put(image.New(), 0, format, l)
			taken(t, "Put of just as many", got, err, want)
			l.Bytes = append(l.Bytes, 0)
			got, err = image.Put(image.New(), 0, format, l)
			refused(t, "Put of one more", got, err, api.ErrShort)
			l.Bytes = l.Bytes[:len(l.Bytes)-2]
			if len(l.Bytes) > 0 {
				got, err = image.Put(image.New(), 0, format, l)
				refused(t, "Put of one fewer", got, err, api.ErrShort)
			}
		}
	}
}

// P8.2: levels are from 0 to 6.
func TestPutLevels(t *testing.T) {
	one := api.Level{W: 1, H: 1, Bytes: []byte{9}}
	for level := 0; level <= 6; level++ {
		want := grey(make([]api.Level, level+1)...)
		want.Levels[level] = one
		got, err := image.Put(image.New(), level, api.L8, one)
		taken(t, "Put at level "+number(level), got, err, want)
	}
	for _, level := range append(ends(), -1, -2, 7, 8) {
		for _, x := range []api.Image{image.New(), example()} {
			got, err := image.Put(x, level, api.L8, one)
			refused(t, "Put at level "+number(level), got, err, api.ErrArg)
		}
	}
}

// P8.2: formats that are none, and sides that no level has.
func TestPutWrong(t *testing.T) {
	for _, format := range append(ends(), -1, 0, 8, 9) {
		for _, x := range []api.Image{image.New(), example()} {
			got, err := image.Put(x, 0, format, api.Level{W: 1, H: 1})
			refused(t, "Put of format "+number(format), got, err, api.ErrArg)
			got, err = image.Put(x, 1, format, api.Level{W: 1, H: 1})
			refused(t, "Put of format "+number(format)+" at 1", got, err, api.ErrArg)
		}
	}
	for _, n := range append(ends(), -1, -64, 0, 65, 66) {
		for _, other := range []int{1, 63, 64, 0, n} {
			for _, b := range [][]byte{nil, {1}, make([]byte, 65), make([]byte, 65*64)} {
				got, err := image.Put(example(), 0, api.L8, api.Level{W: n, H: other, Bytes: b})
				refused(t, "Put of W "+number(n), got, err, api.ErrArg)
				got, err = image.Put(example(), 0, api.L8, api.Level{W: other, H: n, Bytes: b})
				refused(t, "Put of H "+number(n), got, err, api.ErrArg)
			}
		}
	}
}

// P8.2, R2: of several errors ErrArg is told ahead of ErrShort, that ahead of ErrFormat.
func TestPutOrder(t *testing.T) {
	x := example()
	short, whole := api.Level{W: 2, H: 1, Bytes: make([]byte, 7)}, api.Level{W: 2, H: 1, Bytes: make([]byte, 8)}
	got, err := image.Put(x, 7, api.RGBA8, short)
	refused(t, "a level too high, bytes too few, another format", got, err, api.ErrArg)
	got, err = image.Put(x, 1, 8, short)
	refused(t, "no format, bytes too few", got, err, api.ErrArg)
	got, err = image.Put(x, 1, api.RGBA8, api.Level{W: 65, H: 1, Bytes: make([]byte, 7)})
	refused(t, "a side too long, bytes too few, another format", got, err, api.ErrArg)
	got, err = image.Put(x, 1, api.RGBA8, short)
	refused(t, "bytes too few, another format", got, err, api.ErrShort)
	got, err = image.Put(x, 1, api.RGBA8, whole)
	refused(t, "another format", got, err, api.ErrFormat)
	got, err = image.Put(x, 1, api.L8, whole)
	refused(t, "bytes of another format", got, err, api.ErrShort)
}

// P8.2: Put in the place of a level, behind the last one, and far behind it: all others stay.
func TestPutAmong(t *testing.T) {
	none := api.Level{}
	a, b, c := api.Level{W: 2, H: 1, Bytes: []byte{1, 2}}, api.Level{W: 1, H: 1, Bytes: []byte{3}}, api.Level{W: 1, H: 3, Bytes: []byte{4, 5, 6}}
	rows := []struct {
		name  string
		ahead api.Image
		level int
		want  api.Image
	}{
		{"in the place of the only one", grey(a), 0, grey(c)},
		{"in the place of the first", grey(a, b), 0, grey(c, b)},
		{"in the place of the last", grey(a, b), 1, grey(a, c)},
		{"behind the last", grey(a, b), 2, grey(a, b, c)},
		{"far behind the last", grey(a), 6, grey(a, none, none, none, none, none, c)},
		{"in a place that is not there", grey(none, b), 0, grey(c, b)},
		{"in between", grey(a, none, none, b), 2, grey(a, none, c, b)},
		{"the seventh of seven", grey(a, a, a, a, a, a, b), 6, grey(a, a, a, a, a, a, c)},
		{"the fourth of seven", grey(a, a, a, a, a, a, b), 3, grey(a, a, a, c, a, a, b)},
	}
	for _, r := range rows {
		r.ahead.WrapS, r.ahead.WrapT, r.ahead.Min, r.ahead.Mag = 2, 3, 4, 1
		r.want.WrapS, r.want.WrapT, r.want.Min, r.want.Mag = 2, 3, 4, 1
		got, err := image.Put(r.ahead, r.level, api.L8, c)
		taken(t, r.name, got, err, r.want)
		got, err = image.Put(r.ahead, r.level, api.L8, api.Level{W: 1, H: 3})
		r.want.Levels[r.level] = flat(1, 3, 1)
		taken(t, r.name+", noughts", got, err, r.want)
	}
}

// P8.2: another format lets all other levels go at level 0, and is refused at the others, also where their sizes are the same.
func TestPutFormat(t *testing.T) {
	for was, size := range sizes() {
		for format, other := range sizes() {
			x := grey(flat(2, 2, size), api.Level{}, flat(1, 1, size))
			x.Format, x.WrapT, x.Mag = was, api.Mirror, api.Nearest
			l := flat(1, 2, other)
			for i := range l.Bytes {
				l.Bytes[i] = byte(i + 1)
			}
			want := grey(l)
			want.Format, want.WrapT, want.Mag = format, api.Mirror, api.Nearest
			if format == was {
				want.Levels = append(want.Levels, x.Levels[1:]...)
			}
			got, err := image.Put(x, 0, format, l)
			taken(t, "Put at 0", got, err, want)
			for level := 1; level <= 6; level++ {
				got, err = image.Put(x, level, format, l)
				if format != was {
					refused(t, "Put of another format", got, err, api.ErrFormat)
				} else if err != api.OK || got.Format != was {
					t.Errorf("Put of the same format: %v, %d", got, err)
				}
			}
		}
	}
	x := grey(api.Level{}, flat(1, 1, 1))
	got, err := image.Put(x, 0, api.A8, flat(1, 1, 1))
	want := grey(flat(1, 1, 1))
	want.Format = api.A8
	taken(t, "another format, where level 0 is not there", got, err, want)
	got, err = image.Put(x, 2, api.A8, flat(1, 1, 1))
	refused(t, "another format at 2, where level 0 is not there", got, err, api.ErrFormat)
	got, err = image.Put(image.New(), 2, api.LA8, flat(1, 1, 2))
	want = grey(api.Level{}, api.Level{}, flat(1, 1, 2))
	want.Format = api.LA8
	taken(t, "any format at 2, without levels", got, err, want)
}

// counted answers an image of RGB565 whose level 1 has w times h pixels, no two of them alike.
func counted(w, h int) api.Image {
	l := flat(w, h, 2)
	for i := range w * h {
		l.Bytes[2*i], l.Bytes[2*i+1] = byte(i), byte(i>>8)+0x40
	}
	x := grey(flat(1, 1, 2), l, api.Level{}, flat(2, 2, 2))
	x.Format = api.RGB565
	return x
}

// lies is the chapter's 'lies in', for numbers that are not far off.
func lies(l api.Level, p api.Piece) bool {
	return p.X >= 0 && p.Y >= 0 && p.W >= 0 && p.H >= 0 && p.X+p.W <= l.W && p.Y+p.H <= l.H
}

// cut answers the bytes of a piece of level 1 of what counted answers.
func cut(w int, p api.Piece) []byte {
	var b []byte
	for y := p.Y; y < p.Y+p.H; y++ {
		for x := p.X; x < p.X+p.W; x++ {
			i := y*w + x
			b = append(b, byte(i), byte(i>>8)+0x40)
		}
	}
	return b
}

// pasted answers a level in which a piece has other bytes.
func pasted(l api.Level, p api.Piece, b []byte) api.Level {
	l.Bytes = append([]byte(nil), l.Bytes...)
	for y := range p.H {
		for x := range p.W {
			to, from := (p.Y+y)*l.W+p.X+x, y*p.W+x
			l.Bytes[2*to], l.Bytes[2*to+1] = b[2*from], b[2*from+1]
		}
	}
	return l
}

// piece holds Get and Sub of one piece of level 1 of what counted answers against the chapter's words.
func piece(t *testing.T, x api.Image, p api.Piece) {
	t.Helper()
	l := x.Levels[1]
	if !lies(l, p) {
		b, err := image.Get(x, 1, p)
		untold(t, "Get past the end", b, err, api.ErrArg)
		for _, b := range [][]byte{nil, {1, 2}, {1}} {
			got, err := image.Sub(x, 1, p, b)
			refused(t, "Sub past the end", got, err, api.ErrArg)
		}
		return
	}
	b, err := image.Get(x, 1, p)
	told(t, "Get", b, err, cut(l.W, p)...)
	fresh := make([]byte, 2*p.W*p.H)
	for i := range fresh {
		fresh[i] = 0x80 + byte(i)
	}
	want := copied(x)
	want.Levels[1] = pasted(l, p, fresh)
	got, err := image.Sub(x, 1, p, fresh)
	taken(t, "Sub", got, err, want)
	b, err = image.Get(got, 1, p)
	told(t, "Get of what was put", b, err, fresh...)
	got, err = image.Sub(x, 1, p, append(fresh, 0))
	refused(t, "Sub of one byte more", got, err, api.ErrShort)
	got, err = image.Sub(x, 1, p, append(fresh, 0, 0))
	refused(t, "Sub of one pixel more", got, err, api.ErrShort)
	if len(fresh) > 0 {
		got, err = image.Sub(x, 1, p, fresh[1:])
		refused(t, "Sub of one byte fewer", got, err, api.ErrShort)
		got, err = image.Sub(x, 1, p, nil)
		refused(t, "Sub of no bytes", got, err, api.ErrShort)
	}
}

// P8.2: all pieces in, at and beside a level.
func TestPieces(t *testing.T) {
	for _, side := range [][2]int{{3, 2}, {1, 1}, {1, 4}, {4, 1}} {
		x := counted(side[0], side[1])
		for px := -1; px <= side[0]+1; px++ {
			for py := -1; py <= side[1]+1; py++ {
				for w := -1; w <= side[0]+1; w++ {
					for h := -1; h <= side[1]+1; h++ {
						piece(t, x, api.Piece{X: px, Y: py, W: w, H: h})
					}
				}
			}
		}
	}
	x := counted(64, 64)
	for _, p := range []api.Piece{{W: 64, H: 64}, {X: 63, Y: 63, W: 1, H: 1}, {X: 64, Y: 64}, {X: 64, Y: 64, W: 1}, {X: 64, Y: 64, H: 1}, {X: 1, W: 64, H: 64}, {W: 65, H: 64}, {W: 64, H: 65}, {X: 65, Y: 0}, {Y: 65}, {X: 64, H: 64}, {Y: 64, W: 64}, {X: 10, Y: 20, W: 30, H: 40}} {
		piece(t, x, p)
	}
}

// P8.2: pieces far off, where two numbers together pass the greatest one.
func TestPiecesFarOff(t *testing.T) {
	x := example()
	for _, n := range ends() {
		for _, m := range append(ends(), 0, 1, 2, 3, -1, -2) {
			for _, p := range []api.Piece{{X: n, W: m}, {X: m, W: n}, {Y: n, H: m}, {Y: m, H: n}, {W: n, H: m}, {W: m, H: n}, {X: n, Y: m}, {X: m, Y: n}, {X: n, Y: n, W: m, H: m}, {X: m, Y: m, W: n, H: n}} {
				b, err := image.Get(x, 0, p)
				untold(t, "Get far off", b, err, api.ErrArg)
				for _, b := range [][]byte{nil, {1}, {1, 2, 3, 4}} {
					got, err := image.Sub(x, 0, p, b)
					refused(t, "Sub far off", got, err, api.ErrArg)
				}
			}
		}
	}
}

// P8.2: Sub and Get of levels that are not there, ahead of what is wrong with the piece and with the bytes.
func TestPiecesNone(t *testing.T) {
	none := func(x api.Image, level int) {
		t.Helper()
		for _, p := range []api.Piece{{}, {W: 1, H: 1}, {X: -1}, {W: 65, H: 65}, {X: math.MaxInt, W: math.MaxInt}} {
			b, err := image.Get(x, level, p)
			untold(t, "Get of level "+number(level), b, err, api.ErrNone)
			for _, b := range [][]byte{nil, {1}, {1, 2}} {
				got, err := image.Sub(x, level, p, b)
				refused(t, "Sub of level "+number(level), got, err, api.ErrNone)
			}
		}
	}
	for _, level := range append(ends(), -1, -2, 1, 2, 6, 7, 8) {
		none(example(), level)
		none(image.New(), level)
	}
	none(image.New(), 0)
	last := grey(api.Level{}, flat(1, 1, 1), api.Level{}, api.Level{}, api.Level{}, api.Level{}, api.Level{W: 1, H: 1, Bytes: []byte{5}})
	for _, level := range append(ends(), -1, 0, 2, 3, 4, 5, 7, 8) {
		none(last, level)
	}
	b, err := image.Get(last, 6, api.Piece{W: 1, H: 1})
	told(t, "Get of level 6", b, err, 5)
	got, err := image.Sub(last, 6, api.Piece{W: 1, H: 1}, []byte{6})
	want := copied(last)
	want.Levels[6].Bytes[0] = 6
	taken(t, "Sub of level 6", got, err, want)
}

// P8.2: pixels of each format, from the left to the right, and row by row from below.
func TestPiecesFormats(t *testing.T) {
	for format, size := range sizes() {
		x := grey(flat(3, 3, size))
		x.Format = format
		for i := range x.Levels[0].Bytes {
			x.Levels[0].Bytes[i] = byte(i)
		}
		b, err := image.Get(x, 0, api.Piece{X: 1, Y: 1, W: 2, H: 2})
		var want []byte
		for _, place := range []int{4, 5, 7, 8} {
			for i := range size {
				want = append(want, byte(place*size+i))
			}
		}
		told(t, "Get", b, err, want...)
		y, err := image.Sub(x, 0, api.Piece{X: 0, Y: 0, W: 2, H: 2}, want)
		is(t, "Sub", err, api.OK)
		b, err = image.Get(y, 0, api.Piece{X: 0, Y: 0, W: 2, H: 2})
		told(t, "Get of what was put", b, err, want...)
		b, err = image.Get(y, 0, api.Piece{X: 2, Y: 0, W: 1, H: 3})
		want = nil
		for _, place := range []int{2, 5, 8} {
			for i := range size {
				want = append(want, byte(place*size+i))
			}
		}
		told(t, "Get of what stands beside", b, err, want...)
	}
}
