package image_test

import (
	"bytes"
	"testing"

	"paintbox/api"
	"paintbox/image"
)

// chance answers numbers that look like chance and are the same each time.
type chance uint64

// below answers a number from 0 to n less one.
func (c *chance) below(n int) int {
	*c = *c*6364136223846793005 + 1442695040888963407
	return int(uint64(*c)>>33) % n
}

// bytes answers so many bytes.
func (c *chance) bytes(n int) []byte {
	list := make([]byte, n)
	for i := range list {
		list[i] = byte(c.below(256))
	}
	return list
}

// side answers a side that a level may have, small ones and the ends most often; one in twelve is none.
func (c *chance) side() int {
	return []int{1, 1, 2, 2, 4, 3, 8, 5, 16, 64, 7, []int{0, 65, -1, 63}[c.below(4)]}[c.below(12)]
}

// place is a pixel of a level.
type place struct{ level, x, y int }

// model is an image in the chapter's words: its pixels one by one.
type model struct {
	format int
	sides  [7][2]int // 0, 0: it is not there
	cells  map[place][]byte
	params [4]int
}

// image answers what the model stands for.
func (m *model) image() api.Image {
	x := api.Image{Format: m.format, WrapS: m.params[0], WrapT: m.params[1], Min: m.params[2], Mag: m.params[3]}
	for level, s := range m.sides {
		if s[0] == 0 {
			continue
		}
		for len(x.Levels) <= level {
			x.Levels = append(x.Levels, api.Level{})
		}
		l := api.Level{W: s[0], H: s[1]}
		for y := range s[1] {
			for column := range s[0] {
				l.Bytes = append(l.Bytes, m.cells[place{level, column, y}]...)
			}
		}
		x.Levels[level] = l
	}
	return x
}

// none tells whether no level is there.
func (m *model) none() bool {
	return m.sides == [7][2]int{}
}

// forget lets a level go.
func (m *model) forget(level int) {
	for y := range m.sides[level][1] {
		for x := range m.sides[level][0] {
			delete(m.cells, place{level, x, y})
		}
	}
	m.sides[level] = [2]int{}
}

// fill gives all pixels of a piece these bytes.
func (m *model) fill(level int, p api.Piece, b []byte) {
	size := sizes()[m.format]
	for y := range p.H {
		for x := range p.W {
			m.cells[place{level, p.X + x, p.Y + y}] = bytes.Clone(b[:size])
			b = b[size:]
		}
	}
}

// put is Put in the chapter's words.
func (m *model) put(level, format int, l api.Level) api.Errno {
	size := sizes()[format]
	if level < 0 || level > 6 || size == 0 || l.W < 1 || l.W > 64 || l.H < 1 || l.H > 64 {
		return api.ErrArg
	}
	if n := len(l.Bytes); n != 0 && n != l.W*l.H*size {
		return api.ErrShort
	}
	if level != 0 && !m.none() && format != m.format {
		return api.ErrFormat
	}
	m.forget(level)
	if level == 0 && m.format != format {
		for other := range 7 {
			m.forget(other)
		}
	}
	m.format = format
	m.sides[level] = [2]int{l.W, l.H}
	b := l.Bytes
	if len(b) == 0 {
		b = make([]byte, l.W*l.H*size)
	}
	m.fill(level, api.Piece{W: l.W, H: l.H}, b)
	return api.OK
}

// refusal answers why there is no such piece, in the chapter's words.
func (m *model) refusal(level int, p api.Piece) api.Errno {
	if level < 0 || level > 6 || m.sides[level][0] == 0 {
		return api.ErrNone
	}
	if !lies(api.Level{W: m.sides[level][0], H: m.sides[level][1]}, p) {
		return api.ErrArg
	}
	return api.OK
}

// sub is Sub in the chapter's words.
func (m *model) sub(level int, p api.Piece, b []byte) api.Errno {
	if err := m.refusal(level, p); err != api.OK {
		return err
	}
	if len(b) != p.W*p.H*sizes()[m.format] {
		return api.ErrShort
	}
	m.fill(level, p, b)
	return api.OK
}

// get is Get in the chapter's words.
func (m *model) get(level int, p api.Piece) ([]byte, api.Errno) {
	if err := m.refusal(level, p); err != api.OK {
		return nil, err
	}
	var b []byte
	for y := range p.H {
		for x := range p.W {
			b = append(b, m.cells[place{level, p.X + x, p.Y + y}]...)
		}
	}
	return b, api.OK
}

// generate is Generate in the chapter's words.
func (m *model) generate() api.Errno {
	w, h := m.sides[0][0], m.sides[0][1]
	if w == 0 {
		return api.ErrNone
	}
	if !isPower(w) || !isPower(h) {
		return api.ErrArg
	}
	y := generated(m.image())
	for level := range 7 {
		m.forget(level)
	}
	for level, l := range y.Levels {
		m.sides[level] = [2]int{l.W, l.H}
		m.fill(level, api.Piece{W: l.W, H: l.H}, l.Bytes)
	}
	return api.OK
}

// param is Param in the chapter's words.
func (m *model) param(which, value int) api.Errno {
	if which < 1 || which > 4 || value < 1 || value > []int{3, 3, 4, 2}[which-1] {
		return api.ErrArg
	}
	m.params[which-1] = value
	return api.OK
}

// complete is Complete in the chapter's words.
func (m *model) complete() bool {
	w, h := m.sides[0][0], m.sides[0][1]
	if w == 0 {
		return false
	}
	if !isPower(w) || !isPower(h) {
		return m.params[0] == api.Clamp && m.params[1] == api.Clamp && m.params[2] <= api.Linear
	}
	for n := 0; m.params[2] >= api.NearestMip; n++ {
		if m.sides[n] != [2]int{sized(w, n), sized(h, n)} {
			return false
		}
		if m.sides[n] == [2]int{1, 1} {
			break
		}
	}
	return true
}

// piece answers a piece by chance: most often one that lies in the level.
func (m *model) piece(c *chance, level int) api.Piece {
	w, h := 4, 4
	if level >= 0 && level < 7 {
		w, h = m.sides[level][0], m.sides[level][1]
	}
	p := api.Piece{X: c.below(w + 1), Y: c.below(h + 1)}
	p.W, p.H = c.below(w-p.X+1), c.below(h-p.Y+1)
	if c.below(6) == 0 {
		*[]*int{&p.X, &p.Y, &p.W, &p.H}[c.below(4)] += c.below(5) - 2
	}
	return p
}

// room answers so many bytes by chance, at times one more or one fewer, or none.
func (c *chance) room(n int) []byte {
	switch c.below(12) {
	case 0:
		n++
	case 1:
		n--
	case 2:
		n = 0
	}
	return roomy(c.bytes(max(0, n)))
}

// call does one call of chance with both, and answers the image and what the two calls said. The bytes that were handed in are changed afterwards.
func (m *model) call(c *chance, x api.Image) (y api.Image, got, want api.Errno) {
	level, format := c.below(9)-1, c.below(10)-1
	if c.below(3) > 0 {
		level = c.below(3)
	}
	if c.below(3) > 0 && m.format > 0 {
		format = m.format
	}
	switch c.below(8) {
	case 0, 1, 2:
		l := api.Level{W: c.side(), H: c.side()}
		l.Bytes = c.room(max(0, l.W*l.H) * sizes()[format])
		want = m.put(level, format, l)
		y, got = image.Put(x, level, format, l)
		spoilBytes(l.Bytes)
	case 3, 4, 5:
		p := m.piece(c, level)
		b := c.room(max(0, p.W*p.H) * sizes()[m.format])
		want = m.sub(level, p, b)
		y, got = image.Sub(x, level, p, b)
		spoilBytes(b)
	case 6:
		which, value := c.below(6), c.below(6)
		y, got = image.Param(x, which, value)
		want = m.param(which, value)
	default:
		y, got = image.Generate(x)
		want = m.generate()
	}
	return y, got, want
}

// look holds what can be asked of the image against the model.
func (m *model) look(t *testing.T, c *chance, x api.Image) {
	t.Helper()
	want := m.image()
	if !equal(x, want) || !image.Same(x, want) {
		t.Fatalf("the image is %v; want %v", x, want)
	}
	is(t, "Check of what was answered", image.Check(x), api.OK)
	if image.Complete(x) != m.complete() {
		t.Fatalf("Complete of %v = %v", x, image.Complete(x))
	}
	if got := image.Cost(x); got != len(m.cells)*sizes()[m.format] {
		t.Fatalf("Cost = %d; want %d pixels'", got, len(m.cells))
	}
	level := c.below(9) - 1
	p := m.piece(c, level)
	b, err := image.Get(x, level, p)
	list, reason := m.get(level, p)
	if err != reason || !bytes.Equal(b, list) {
		t.Fatalf("Get(%d, %v) = % x, %d; want % x, %d", level, p, b, err, list, reason)
	}
}

// P8.5: rows of chance calls: what these calls answer may be, what was put is got, all else is as it was, what is refused changes nothing.
func TestChance(t *testing.T) {
	for seed := range 60 {
		c := chance(seed)
		m := &model{cells: map[place][]byte{}, params: [4]int{1, 1, 3, 2}}
		x := image.New()
		for range 80 {
			ahead := copied(x)
			handed := copied(x)
			y, got, want := m.call(&c, handed)
			if got != want {
				t.Fatalf("seed %d: error %d; want %d", seed, got, want)
			}
			if !equal(wide(handed), wide(ahead)) {
				t.Fatalf("seed %d: what was handed in was changed", seed)
			}
			if got == api.OK {
				x = y
			} else if !equal(y, api.Image{}) {
				t.Fatalf("seed %d: %v beside error %d", seed, y, got)
			}
			spoil(handed)
			m.look(t, &c, x)
		}
	}
}
