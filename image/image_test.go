package image_test

import (
	"bytes"
	"math"
	"testing"

	"paintbox/api"
	"paintbox/image"
)

// is holds an error against the one that is wanted.
func is(t *testing.T, what string, got, want api.Errno) {
	t.Helper()
	if got != want {
		t.Errorf("%s: error %d; want %d", what, got, want)
	}
}

// equal is Same in the tests' own words.
func equal(a, b api.Image) bool {
	if len(a.Levels) != len(b.Levels) {
		return false
	}
	for i, l := range a.Levels {
		m := b.Levels[i]
		if l.W != m.W || l.H != m.H || !bytes.Equal(l.Bytes, m.Bytes) {
			return false
		}
	}
	return [5]int{a.Format, a.WrapS, a.WrapT, a.Min, a.Mag} == [5]int{b.Format, b.WrapS, b.WrapT, b.Min, b.Mag}
}

// taken looks that a call was not refused and answered this image.
func taken(t *testing.T, what string, got api.Image, err api.Errno, want api.Image) {
	t.Helper()
	if err != api.OK || !equal(got, want) {
		t.Errorf("%s = %v, %d; want %v", what, got, err, want)
	}
}

// refused looks that a call was refused for this reason, with nothing beside it.
func refused(t *testing.T, what string, got api.Image, err, want api.Errno) {
	t.Helper()
	if err != want || !equal(got, api.Image{}) {
		t.Errorf("%s = %v, %d; want nothing, %d", what, got, err, want)
	}
}

// told holds bytes that were answered against those that are wanted.
func told(t *testing.T, what string, got []byte, err api.Errno, want ...byte) {
	t.Helper()
	if err != api.OK || !bytes.Equal(got, want) {
		t.Errorf("%s = % x, %d; want % x", what, got, err, want)
	}
}

// untold looks that bytes were refused for this reason.
func untold(t *testing.T, what string, got []byte, err, want api.Errno) {
	t.Helper()
	if err != want || len(got) != 0 {
		t.Errorf("%s = % x, %d; want nothing, %d", what, got, err, want)
	}
}

// copied answers the same image in memory of its own, with room behind the end of each list, in which no nought stands.
func copied(x api.Image) api.Image {
	levels := make([]api.Level, 0, len(x.Levels)+3)
	for _, l := range x.Levels {
		levels = append(levels, api.Level{W: l.W, H: l.H, Bytes: roomy(l.Bytes)})
	}
	rest := levels[len(levels):cap(levels)]
	for i := range rest {
		rest[i] = api.Level{W: 77, H: 78, Bytes: []byte{79}}
	}
	x.Levels = levels
	return x
}

// roomy answers the same bytes with room behind their end, in which no nought stands.
func roomy(b []byte) []byte {
	list := append(make([]byte, 0, len(b)+5), b...)
	rest := list[len(list):cap(list)]
	for i := range rest {
		rest[i] = 0xA5
	}
	return list
}

// wide answers an image's lists up to the end of their room.
func wide(x api.Image) api.Image {
	x.Levels = x.Levels[:cap(x.Levels)]
	levels := make([]api.Level, len(x.Levels))
	for i, l := range x.Levels {
		l.Bytes = l.Bytes[:cap(l.Bytes)]
		levels[i] = l
	}
	x.Levels = levels
	return x
}

// spoil changes all that can be changed of an image's lists, the room behind their ends too.
func spoil(x api.Image) {
	for _, l := range x.Levels {
		spoilBytes(l.Bytes)
	}
	levels := x.Levels[:cap(x.Levels)]
	for i := range levels {
		levels[i] = api.Level{W: 5, H: 6, Bytes: []byte{7}}
	}
}

// spoilBytes changes all bytes of a list and of the room behind its end.
func spoilBytes(b []byte) {
	b = b[:cap(b)]
	for i := range b {
		b[i] ^= 0x5A
	}
}

// ends are numbers far off, whose sums and products pass the greatest and the least number.
func ends() []int {
	return []int{math.MaxInt, math.MaxInt - 1, math.MinInt, math.MinInt + 1, 1 << 32, 1<<32 + 1, -1 << 32, math.MaxInt32, math.MinInt32, 1<<31 + 1, 1<<62 + 1}
}

// grey answers an image of L8 with New's parameters and these levels; no bytes and no sides is a level that is not there.
func grey(levels ...api.Level) api.Image {
	return api.Image{Format: api.L8, Levels: levels, WrapS: api.Repeat, WrapT: api.Repeat, Min: api.NearestMip, Mag: api.Linear}
}

// flat answers a level of noughts, each pixel having so many bytes.
func flat(w, h, size int) api.Level {
	return api.Level{W: w, H: h, Bytes: make([]byte, w*h*size)}
}

// sizes answers how many bytes a pixel of each format has, by the chapter's table.
func sizes() map[int]int {
	return map[int]int{api.RGBA8: 4, api.RGB565: 2, api.RGBA4: 2, api.RGB5A1: 2, api.L8: 1, api.A8: 1, api.LA8: 2}
}

// example answers the chapter's image.
func example() api.Image {
	return grey(api.Level{W: 2, H: 2, Bytes: []byte{0, 1, 2, 4}})
}

// with answers an image in which something was changed.
func with(x api.Image, change func(*api.Image)) api.Image {
	x = copied(x)
	change(&x)
	return x
}

// sound answers images that may be, by what they have of their own.
func sound() map[string]api.Image {
	one := flat(1, 1, 1)
	all := map[string]api.Image{
		"new":                  {WrapS: 1, WrapT: 1, Min: 3, Mag: 2},
		"one pixel":            grey(one),
		"seven levels":         grey(one, one, one, one, one, one, one),
		"the last alone":       grey(api.Level{}, api.Level{}, api.Level{}, api.Level{}, api.Level{}, api.Level{}, one),
		"one in between":       grey(one, api.Level{}, one),
		"levels of any sides":  grey(flat(3, 5, 1), flat(64, 64, 1), flat(1, 64, 1)),
		"the greatest":         grey(flat(64, 64, 1)),
		"an empty list":        {Levels: []api.Level{}, WrapS: 1, WrapT: 1, Min: 1, Mag: 1},
		"an empty list within": grey(api.Level{Bytes: []byte{}}, one),
	}
	for format, size := range sizes() {
		x := grey(flat(3, 2, size), api.Level{}, flat(1, 1, size))
		x.Format = format
		all["format "+string(rune('0'+format))] = x
	}
	return all
}

// unsound answers images that may not be, each of one reason alone.
func unsound() map[string]api.Image {
	one, none := flat(1, 1, 1), api.Level{}
	all := map[string]api.Image{
		"zero":                         {},
		"eight levels":                 grey(one, one, one, one, one, one, one, one),
		"nine levels, all but one not": grey(none, none, none, none, none, none, none, none, one),
		"the last not there":           grey(one, none),
		"the only one not there":       grey(none),
		"no format, but levels":        with(grey(one), func(x *api.Image) { x.Format = 0 }),
		"a format, but no levels":      grey(),
		"another, but no levels":       with(grey(), func(x *api.Image) { x.Format = api.RGBA8 }),
		"none, and no levels":          with(grey(), func(x *api.Image) { x.Format = 8 }),
		"no format, a level not there": with(grey(none), func(x *api.Image) { x.Format = 0 }),
		"one byte too many":            grey(api.Level{W: 2, H: 3, Bytes: make([]byte, 7)}),
		"one byte too few":             grey(api.Level{W: 2, H: 3, Bytes: make([]byte, 5)}),
		"no bytes":                     grey(api.Level{W: 2, H: 3}),
		"bytes without sides":          grey(api.Level{Bytes: make([]byte, 1)}, one),
		"too many in between":          grey(one, api.Level{W: 1, H: 1, Bytes: make([]byte, 2)}, one),
		"too few at the end":           grey(one, api.Level{W: 2, H: 1, Bytes: make([]byte, 1)}),
		"bytes of another format":      with(grey(flat(2, 2, 1)), func(x *api.Image) { x.Format = api.LA8 }),
		"bytes of a greater format":    with(grey(flat(2, 2, 4)), func(x *api.Image) { x.Format = api.RGB565 }),
	}
	for name, l := range map[string]api.Level{
		"no W": {H: 1}, "no H": {W: 1}, "no W, a byte": {H: 1, Bytes: []byte{1}}, "no H, a byte": {W: 1, Bytes: []byte{1}},
		"W 65": flat(65, 1, 1), "H 65": flat(1, 65, 1), "W 65, H 64": flat(65, 64, 1), "W 64, H 65": flat(64, 65, 1),
		"W below 0": {W: -1, H: 1}, "H below 0": {W: 1, H: -1}, "both below 0": {W: -1, H: -1, Bytes: []byte{1}},
		"both far below 0": {W: math.MinInt, H: math.MinInt}, "W far off": {W: math.MinInt, H: 2}, "H far off": {W: 2, H: math.MinInt},
		"both far off": {W: 1 << 32, H: 1 << 32}, "sides of one byte": {W: -math.MaxInt, H: -math.MaxInt, Bytes: []byte{1}},
	} {
		all["level 0: "+name] = grey(l)
		all["level 1 of 3: "+name] = grey(one, l, one)
	}
	for _, n := range append(ends(), -1, 8, 9) {
		all["format "+number(n)] = with(grey(one), func(x *api.Image) { x.Format = n })
	}
	for _, n := range append(ends(), -1, 0, 4, 5) {
		all["WrapS "+number(n)] = with(grey(one), func(x *api.Image) { x.WrapS = n })
		all["WrapT "+number(n)] = with(grey(one), func(x *api.Image) { x.WrapT = n })
	}
	for _, n := range append(ends(), -1, 0, 5, 6) {
		all["Min "+number(n)] = with(grey(one), func(x *api.Image) { x.Min = n })
	}
	for _, n := range append(ends(), -1, 0, 3, 4) {
		all["Mag "+number(n)] = with(grey(one), func(x *api.Image) { x.Mag = n })
	}
	return all
}

// P8.1: a new image has no levels, and the chapter's parameters.
func TestNew(t *testing.T) {
	x := image.New()
	if !equal(x, api.Image{WrapS: 1, WrapT: 1, Min: 3, Mag: 2}) {
		t.Errorf("New() = %v", x)
	}
	is(t, "Check of New", image.Check(x), api.OK)
	spoil(x)
	x.Mag = 1
	if !equal(image.New(), api.Image{WrapS: 1, WrapT: 1, Min: 3, Mag: 2}) {
		t.Errorf("New() once more = %v", image.New())
	}
}

// P8.1: what may be, and what may not, each for its own reason.
func TestCheck(t *testing.T) {
	for name, x := range sound() {
		is(t, name, image.Check(x), api.OK)
	}
	for name, x := range unsound() {
		is(t, name, image.Check(x), api.ErrImage)
	}
	for s := 1; s <= 3; s++ {
		for r := 1; r <= 3; r++ {
			for m := 1; m <= 4; m++ {
				for g := 1; g <= 2; g++ {
					x := api.Image{WrapS: s, WrapT: r, Min: m, Mag: g}
					is(t, "parameters without levels", image.Check(x), api.OK)
				}
			}
		}
	}
}

// P8.1: sides are from 1 to 64, each for itself, and the bytes just as many.
func TestCheckSides(t *testing.T) {
	for format, size := range sizes() {
		for w := -1; w <= 66; w++ {
			for _, h := range []int{-1, 0, 1, 2, 63, 64, 65} {
				want := api.ErrImage
				if w >= 1 && w <= 64 && h >= 1 && h <= 64 {
					want = api.OK
				}
				n := max(0, w) * max(0, h) * size
				for more := -1; more <= 1; more++ {
					if n+more < 0 {
						continue
					}
					x := grey(api.Level{W: w, H: h, Bytes: make([]byte, n+more)})
					x.Format = format
					if more != 0 {
						is(t, "other bytes", image.Check(x), api.ErrImage)
						continue
					}
					is(t, "a level of sides "+number(w)+", "+number(h), image.Check(x), want)
				}
			}
		}
	}
}

// P8.1 to P8.4: each call that takes an image, of one that may not be, ahead of all other errors.
func TestUnsoundFirst(t *testing.T) {
	for name, x := range unsound() {
		ahead := copied(x)
		for _, level := range []int{0, 1, -1, 7, math.MaxInt, math.MinInt} {
			for _, p := range []api.Piece{{}, {W: 1, H: 1}, {X: -1}, {X: math.MaxInt, W: math.MaxInt}} {
				got, err := image.Sub(x, level, p, []byte{1})
				refused(t, name+": Sub", got, err, api.ErrImage)
				list, err := image.Get(x, level, p)
				untold(t, name+": Get", list, err, api.ErrImage)
			}
			for _, l := range []api.Level{flat(1, 1, 1), flat(1, 1, 2), {}, {W: 65, H: 65}} {
				for _, format := range []int{api.L8, api.RGBA8, 0, 9} {
					got, err := image.Put(x, level, format, l)
					refused(t, name+": Put", got, err, api.ErrImage)
				}
			}
			for _, value := range []int{1, 9, math.MinInt} {
				got, err := image.Param(x, level, value)
				refused(t, name+": Param", got, err, api.ErrImage)
			}
		}
		got, err := image.Generate(x)
		refused(t, name+": Generate", got, err, api.ErrImage)
		if image.Complete(x) || image.Cost(x) != 0 {
			t.Errorf("%s: Complete %v, Cost %d", name, image.Complete(x), image.Cost(x))
		}
		if !equal(x, ahead) {
			t.Errorf("%s: the image was changed", name)
		}
	}
}

// P8.1: Same asks each field of each level, also of images that may not be.
func TestSame(t *testing.T) {
	base := grey(flat(2, 3, 1), api.Level{}, api.Level{W: 1, H: 2, Bytes: []byte{7, 8}})
	if !image.Same(base, copied(base)) {
		t.Error("an image and its copy")
	}
	changes := map[string]func(*api.Image){
		"Format": func(x *api.Image) { x.Format++ },
		"WrapS":  func(x *api.Image) { x.WrapS++ },
		"WrapT":  func(x *api.Image) { x.WrapT++ },
		"Min":    func(x *api.Image) { x.Min++ },
		"Mag":    func(x *api.Image) { x.Mag-- },
		"both wraps": func(x *api.Image) {
			x.WrapS, x.WrapT = 2, 3
		},
		"no levels":       func(x *api.Image) { x.Levels = nil },
		"a level fewer":   func(x *api.Image) { x.Levels = x.Levels[:2] },
		"a level more":    func(x *api.Image) { x.Levels = append(x.Levels, api.Level{}) },
		"W":               func(x *api.Image) { x.Levels[0].W++ },
		"H":               func(x *api.Image) { x.Levels[0].H++ },
		"sides exchanged": func(x *api.Image) { x.Levels[0].W, x.Levels[0].H = 3, 2 },
		"a first byte":    func(x *api.Image) { x.Levels[0].Bytes[0]++ },
		"a last byte":     func(x *api.Image) { x.Levels[2].Bytes[1]++ },
		"a byte fewer":    func(x *api.Image) { x.Levels[2].Bytes = x.Levels[2].Bytes[:1] },
		"a byte more":     func(x *api.Image) { x.Levels[2].Bytes = append(x.Levels[2].Bytes, 0) },
		"the last's W":    func(x *api.Image) { x.Levels[2].W++ },
		"one there":       func(x *api.Image) { x.Levels[1] = flat(1, 1, 1) },
	}
	for name, change := range changes {
		other := with(base, change)
		if image.Same(base, other) || image.Same(other, base) {
			t.Errorf("%s: the same", name)
		}
		if !image.Same(other, copied(other)) {
			t.Errorf("%s: not the same as its copy", name)
		}
	}
}

// P8.1, R3: nil and empty lists are one, the room behind their ends plays no part.
func TestSameLists(t *testing.T) {
	a, b := image.New(), image.New()
	a.Levels, b.Levels = nil, []api.Level{}
	if !image.Same(a, b) || !image.Same(b, a) {
		t.Error("no levels and an empty list of them")
	}
	c := grey(api.Level{Bytes: []byte{}}, flat(1, 1, 1))
	d := grey(api.Level{}, flat(1, 1, 1))
	if !image.Same(c, d) || !image.Same(d, c) {
		t.Error("no bytes and an empty list of them")
	}
	e := example()
	e.Levels[0].Bytes = append([]byte{0, 1, 2, 4}, 9, 9)[:4]
	if !image.Same(e, example()) {
		t.Error("room behind the end")
	}
}

// P8.1: Same of all images of the tests, each with each.
func TestSameAll(t *testing.T) {
	var all []api.Image
	for _, x := range sound() {
		all = append(all, x)
	}
	for _, x := range unsound() {
		all = append(all, x)
	}
	for _, a := range all {
		for _, b := range all {
			if image.Same(a, b) != equal(a, b) {
				t.Fatalf("Same(%v, %v) = %v", a, b, image.Same(a, b))
			}
		}
	}
}

// P8.1 to P8.4: the chapter's examples.
func TestExamples(t *testing.T) {
	x, err := image.Put(image.New(), 0, api.L8, api.Level{W: 2, H: 2, Bytes: []byte{0, 1, 2, 4}})
	taken(t, "Put", x, err, example())
	y, err := image.Generate(x)
	taken(t, "Generate", y, err, grey(x.Levels[0], api.Level{W: 1, H: 1, Bytes: []byte{2}}))
	if image.Complete(x) || !image.Complete(y) {
		t.Errorf("Complete: %v, %v", image.Complete(x), image.Complete(y))
	}
	b, err := image.Get(x, 0, api.Piece{X: 1, Y: 0, W: 1, H: 2})
	told(t, "Get of a column", b, err, 1, 4)
	z, err := image.Sub(x, 0, api.Piece{X: 0, Y: 1, W: 2, H: 1}, []byte{9, 9})
	is(t, "Sub", err, api.OK)
	b, err = image.Get(z, 0, api.Piece{W: 2, H: 2})
	told(t, "Get of all", b, err, 0, 1, 9, 9)
	z, err = image.Put(y, 1, api.RGBA8, api.Level{W: 1, H: 1})
	refused(t, "Put of another format", z, err, api.ErrFormat)
	z, err = image.Put(y, 0, api.RGBA8, api.Level{W: 1, H: 1})
	if err != api.OK || len(z.Levels) != 1 {
		t.Errorf("Put of another format at 0: %d levels, %d", len(z.Levels), err)
	}
	b, err = image.Get(x, 1, api.Piece{W: 1, H: 1})
	untold(t, "Get of level 1", b, err, api.ErrNone)
	b, err = image.Get(x, 0, api.Piece{W: 3, H: 1})
	untold(t, "Get of three", b, err, api.ErrArg)
	z, err = image.Param(x, 9, 1)
	refused(t, "Param", z, err, api.ErrArg)
	if image.Count(64, 3) != 7 || image.Count(65, 1) != 0 {
		t.Errorf("Count: %d, %d", image.Count(64, 3), image.Count(65, 1))
	}
}
