package sample_test

import (
	"math"
	"strconv"
	"testing"

	"paintbox/api"
	"paintbox/image"
	"paintbox/pixel"
	"paintbox/sample"
)

// number answers a whole number as a text.
func number(n int) string { return strconv.Itoa(n) }

// told holds a colour that was answered against the one that is wanted.
func told(t *testing.T, what string, got api.Vec, err api.Errno, want api.Vec) {
	t.Helper()
	if err != api.OK || got != want {
		t.Errorf("%s = %v, %d; want %v", what, got, err, want)
	}
}

// refused looks that a call was refused for this reason, with nothing beside it.
func refused(t *testing.T, what string, got api.Vec, err, want api.Errno) {
	t.Helper()
	if err != want || got != (api.Vec{}) {
		t.Errorf("%s = %v, %d; want nothing, %d", what, got, err, want)
	}
}

// ends are whole numbers far off, whose sums and products pass the greatest and the least.
func ends() []int {
	return []int{math.MaxInt, math.MaxInt - 1, math.MinInt, math.MinInt + 1, 1 << 32, 1<<32 + 1, -1 << 32, math.MaxInt32, math.MinInt32, 1<<31 + 1, 1<<62 + 1}
}

// flat answers a level in which each byte is its place, from 1 on.
func flat(w, h, size int) api.Level {
	l := api.Level{W: w, H: h, Bytes: make([]byte, w*h*size)}
	for i := range l.Bytes {
		l.Bytes[i] = byte(i + 1)
	}
	return l
}

// clamped answers an image of L8 with these levels: Clamp, Nearest, Nearest.
func clamped(levels ...api.Level) api.Image {
	return api.Image{Format: api.L8, Levels: levels, WrapS: api.Clamp, WrapT: api.Clamp, Min: api.Nearest, Mag: api.Nearest}
}

// grey answers the colour of a byte of L8.
func grey(b byte) api.Vec {
	c, _ := pixel.Unpack(api.L8, []byte{b})
	return c
}

// example answers the chapter's image.
func example() api.Image {
	return clamped(api.Level{W: 2, H: 1, Bytes: []byte{0x00, 0xFF}})
}

// P9.1 to P9.3: the chapter's examples.
func TestExamples(t *testing.T) {
	x := example()
	black, white := api.Vec{0, 0, 0, api.One}, api.Vec{api.One, api.One, api.One, api.One}
	for _, r := range []struct {
		u    api.Fix
		want api.Vec
	}{{0, black}, {32768, white}, {api.One, white}, {-5, black}} {
		got, err := sample.At(x, r.u, 0, 0)
		told(t, "At("+number(int(r.u))+", 0, 0)", got, err, r.want)
	}
	for _, r := range []struct {
		u    api.Fix
		want api.Vec
	}{{16384, black}, {32768, api.Vec{32768, 32768, 32768, api.One}}, {49152, white}} {
		got, err := sample.Linear(x, 0, r.u, 0)
		told(t, "Linear(0, "+number(int(r.u))+", 0)", got, err, r.want)
	}
	for _, r := range [][3]int{{api.Repeat, -1, 3}, {api.Clamp, -1, 0}, {api.Mirror, -1, 0}, {api.Mirror, 5, 2}} {
		if got := sample.Wrap(r[0], r[1], 4); got != r[2] {
			t.Errorf("Wrap(%d, %d, 4) = %d; want %d", r[0], r[1], got, r[2])
		}
	}
}

// calls answers each call that takes a level and answers a colour, at 0 and far off.
func calls() map[string]func(x api.Image, level int) (api.Vec, api.Errno) {
	return map[string]func(api.Image, int) (api.Vec, api.Errno){
		"Texel": func(x api.Image, level int) (api.Vec, api.Errno) { return sample.Texel(x, level, 0, 0) },
		"Texel far": func(x api.Image, level int) (api.Vec, api.Errno) {
			return sample.Texel(x, level, math.MinInt, math.MaxInt)
		},
		"Nearest": func(x api.Image, level int) (api.Vec, api.Errno) { return sample.Nearest(x, level, 0, 0) },
		"Nearest far": func(x api.Image, level int) (api.Vec, api.Errno) {
			return sample.Nearest(x, level, api.Least, api.Most)
		},
		"Linear":     func(x api.Image, level int) (api.Vec, api.Errno) { return sample.Linear(x, level, 0, 0) },
		"Linear far": func(x api.Image, level int) (api.Vec, api.Errno) { return sample.Linear(x, level, api.Most, api.Least) },
	}
}

// unsound answers images that may not be, each of one reason alone.
func unsound() map[string]api.Image {
	one, none := flat(1, 1, 1), api.Level{}
	all := map[string]api.Image{
		"zero":                   {},
		"eight levels":           clamped(one, one, one, one, one, one, one, one),
		"the last not there":     clamped(one, none),
		"the only one not there": clamped(none),
		"a format, no levels":    clamped(),
		"one byte too many":      clamped(api.Level{W: 2, H: 3, Bytes: make([]byte, 7)}),
		"one byte too few":       clamped(api.Level{W: 2, H: 3, Bytes: make([]byte, 5)}),
		"no bytes":               clamped(api.Level{W: 2, H: 3}),
		"bytes without sides":    clamped(api.Level{Bytes: make([]byte, 1)}, one),
		"wrong behind":           clamped(one, api.Level{W: 2, H: 1, Bytes: make([]byte, 1)}),
		"wrong in between":       clamped(one, api.Level{W: 1, H: 1, Bytes: make([]byte, 2)}, one),
		"W 65":                   clamped(flat(65, 1, 1)),
		"H 65":                   clamped(flat(1, 65, 1)),
		"sides below 0":          clamped(api.Level{W: -1, H: -1, Bytes: []byte{1}}),
		"sides far off":          clamped(api.Level{W: 1 << 32, H: 1 << 32}),
	}
	for _, n := range append(ends(), -1, 0) {
		for i := range 5 {
			x := clamped(one)
			*[]*int{&x.Format, &x.WrapS, &x.WrapT, &x.Min, &x.Mag}[i] = n
			all["part "+number(i)+" "+number(n)] = x
		}
	}
	for i, n := range []int{8, 4, 4, 5, 3} {
		x := clamped(one)
		*[]*int{&x.Format, &x.WrapS, &x.WrapT, &x.Min, &x.Mag}[i] = n
		all["part "+number(i)+" "+number(n)] = x
	}
	return all
}

// P9.1 to P9.3: an image that may not be is refused ahead of all else: of levels that are there, and that are not, and where At would call it not complete.
func TestUnsound(t *testing.T) {
	for name, x := range unsound() {
		for call, ask := range calls() {
			for _, level := range append(ends(), -1, 0, 1, 2, 7) {
				got, err := ask(x, level)
				refused(t, call+" of "+number(level)+": "+name, got, err, api.ErrImage)
			}
		}
		for _, lod := range []api.Fix{api.Least, -1, 0, 1, 32768, api.One, api.Most} {
			got, err := sample.At(x, 0, 0, lod)
			refused(t, "At: "+name, got, err, api.ErrImage)
		}
	}
}

// P9.1, P9.2: levels that there are not, below 0 and past the last, and such as are not there.
func TestNoLevel(t *testing.T) {
	one := flat(1, 1, 1)
	rows := []struct {
		x           api.Image
		there, none []int
	}{
		{image.New(), nil, []int{-1, 0, 1, 6, 7}},
		{clamped(one), []int{0}, []int{-1, 1, 2, 6, 7}},
		{clamped(one, api.Level{}, one), []int{0, 2}, []int{-1, 1, 3, 7}},
		{clamped(api.Level{}, one), []int{1}, []int{-1, 0, 2}},
		{clamped(api.Level{Bytes: []byte{}}, one), []int{1}, []int{-1, 0, 2}},
		{clamped(one, one, one, one, one, one, one), []int{0, 1, 2, 3, 4, 5, 6}, []int{-1, 7, 8}},
		{clamped(api.Level{}, api.Level{}, api.Level{}, api.Level{}, api.Level{}, api.Level{}, one), []int{6}, []int{-1, 0, 5, 7}},
	}
	for _, r := range rows {
		for call, ask := range calls() {
			for _, level := range append(ends(), r.none...) {
				got, err := ask(r.x, level)
				refused(t, call+" of level "+number(level), got, err, api.ErrNone)
			}
			for _, level := range r.there {
				got, err := ask(r.x, level)
				told(t, call+" of level "+number(level), got, err, grey(1))
			}
		}
	}
}

// P9.1, P9.2: a level that is there is told, whether the image is complete or not.
func TestIncompleteLevels(t *testing.T) {
	x := api.Image{Format: api.L8, Levels: []api.Level{{W: 3, H: 1, Bytes: []byte{10, 20, 30}}, {W: 2, H: 2, Bytes: []byte{40, 50, 60, 70}}}, WrapS: api.Repeat, WrapT: api.Mirror, Min: api.LinearMip, Mag: api.Linear}
	got, err := sample.Texel(x, 0, -1, 9)
	told(t, "Texel", got, err, grey(30))
	got, err = sample.Nearest(x, 1, 32768, 32768)
	told(t, "Nearest", got, err, grey(70))
	got, err = sample.Linear(x, 1, 16384, 49152)
	told(t, "Linear", got, err, grey(60))
}

// R2, R3: neither a call that answers nor one that is refused changes what it is handed, the room behind a list's end neither.
func TestChangesNothing(t *testing.T) {
	roomy := func(n int) []byte {
		b := make([]byte, n, n+9)
		for i := range b[:cap(b)] {
			b[:cap(b)][i] = byte(i + 1)
		}
		return b
	}
	levels := func() []api.Level {
		list := make([]api.Level, 0, 9)
		list = append(list, api.Level{W: 2, H: 2, Bytes: roomy(4)}, api.Level{W: 1, H: 1, Bytes: roomy(1)}, api.Level{}, api.Level{W: 1, H: 1, Bytes: roomy(1)})
		copy(list[4:9], []api.Level{{W: 7}, {H: 7}, {W: 8}, {H: 8}, {Bytes: roomy(2)}})
		return list
	}
	for _, mode := range []int{api.Nearest, api.Linear, api.NearestMip, api.LinearMip, 9} {
		x := api.Image{Format: api.L8, Levels: levels(), WrapS: api.Mirror, WrapT: api.Repeat, Min: mode, Mag: api.Linear}
		for _, ask := range calls() {
			for level := -1; level < 9; level++ {
				ask(x, level)
			}
		}
		for _, lod := range []api.Fix{-1, 0, 1, api.One, 5 * api.One} {
			sample.At(x, 40000, 20000, lod)
		}
		got, want := x.Levels[:9], levels()[:9]
		for i, l := range got {
			m := want[i]
			if l.W != m.W || l.H != m.H || string(l.Bytes[:cap(l.Bytes)]) != string(m.Bytes[:cap(m.Bytes)]) {
				t.Errorf("Min %d: level %d was changed: %v; want %v", mode, i, l, m)
			}
		}
	}
}
