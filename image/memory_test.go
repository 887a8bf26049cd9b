package image_test

import (
	"bytes"
	"testing"

	"paintbox/api"
	"paintbox/image"
)

// rich answers an image with levels there and not there, in roomy lists.
func rich() api.Image {
	return copied(grey(api.Level{W: 4, H: 2, Bytes: []byte{1, 2, 3, 4, 5, 6, 7, 8}}, api.Level{}, api.Level{W: 1, H: 1, Bytes: []byte{9}}, api.Level{W: 2, H: 1, Bytes: []byte{10, 11}}))
}

// makers answers each call that answers an image, as one that is not refused for rich.
func makers(b []byte) map[string]func(api.Image) (api.Image, api.Errno) {
	return map[string]func(api.Image) (api.Image, api.Errno){
		"Put anew": func(x api.Image) (api.Image, api.Errno) {
			return image.Put(x, 0, api.L8, api.Level{W: 2, H: 1, Bytes: b})
		},
		"Put in it": func(x api.Image) (api.Image, api.Errno) {
			return image.Put(x, 1, api.L8, api.Level{W: 2, H: 1, Bytes: b})
		},
		"Put behind it": func(x api.Image) (api.Image, api.Errno) {
			return image.Put(x, 5, api.L8, api.Level{W: 2, H: 1, Bytes: b})
		},
		"Put next": func(x api.Image) (api.Image, api.Errno) {
			return image.Put(x, 4, api.L8, api.Level{W: 2, H: 1, Bytes: b})
		},
		"Put another": func(x api.Image) (api.Image, api.Errno) {
			return image.Put(x, 0, api.A8, api.Level{W: 2, H: 1, Bytes: b})
		},
		"Put noughts":   func(x api.Image) (api.Image, api.Errno) { return image.Put(x, 1, api.L8, api.Level{W: 2, H: 1}) },
		"Sub":           func(x api.Image) (api.Image, api.Errno) { return image.Sub(x, 0, api.Piece{X: 1, W: 2, H: 1}, b) },
		"Sub at last":   func(x api.Image) (api.Image, api.Errno) { return image.Sub(x, 3, api.Piece{W: 2, H: 1}, b) },
		"Sub of none":   func(x api.Image) (api.Image, api.Errno) { return image.Sub(x, 0, api.Piece{X: 1}, nil) },
		"WrapS":         func(x api.Image) (api.Image, api.Errno) { return image.Param(x, api.ParamWrapS, api.Mirror) },
		"Mag, the same": func(x api.Image) (api.Image, api.Errno) { return image.Param(x, api.ParamMag, api.Linear) },
		"Generate":      func(x api.Image) (api.Image, api.Errno) { return image.Generate(x) },
	}
}

// R3: no call that answers an image changes what it is handed, the room behind a list's end neither; nor does it keep it, nor share it.
func TestHandedIn(t *testing.T) {
	for name := range makers(nil) {
		b := roomy([]byte{0x21, 0x22})
		x := rich()
		y, err := makers(b)[name](x)
		is(t, name, err, api.OK)
		if !equal(wide(x), wide(rich())) || !bytes.Equal(b[:cap(b)], roomy([]byte{0x21, 0x22})[:cap(b)]) {
			t.Errorf("%s: what was handed in was changed", name)
		}
		want := copied(y)
		spoil(x)
		spoilBytes(b)
		if !equal(y, want) {
			t.Errorf("%s: the answer hangs on what was handed in", name)
		}
	}
}

// R3: what the caller does to an answer changes neither what was handed in nor what is answered next.
func TestAnswered(t *testing.T) {
	for name := range makers(nil) {
		b := roomy([]byte{0x21, 0x22})
		x := rich()
		y, err := makers(b)[name](x)
		is(t, name, err, api.OK)
		want := copied(y)
		spoil(y)
		if !equal(wide(x), wide(rich())) || !bytes.Equal(b[:cap(b)], roomy([]byte{0x21, 0x22})[:cap(b)]) {
			t.Errorf("%s: what was handed in hangs on the answer", name)
		}
		z, err := makers(b)[name](x)
		taken(t, name+" once more", z, err, want)
	}
}

// R3: no two lists of one answer share memory, also where those that were handed in did.
func TestListsApart(t *testing.T) {
	for name := range makers(nil) {
		shared := []byte{1, 2, 3, 4, 5, 6, 7, 8}
		x := grey(api.Level{W: 4, H: 2, Bytes: shared}, api.Level{}, api.Level{W: 1, H: 1, Bytes: shared[:1]}, api.Level{W: 2, H: 1, Bytes: shared[2:4]})
		y, err := makers(shared[1:3])[name](x)
		is(t, name, err, api.OK)
		want := copied(y)
		for i := range y.Levels {
			z := copied(y)
			spoilBytes(y.Levels[i].Bytes)
			z.Levels[i].Bytes = y.Levels[i].Bytes
			if !equal(y, z) {
				t.Errorf("%s: level %d shares its bytes", name, i)
			}
			spoilBytes(y.Levels[i].Bytes)
		}
		if !equal(y, want) || !bytes.Equal(shared, []byte{1, 2, 3, 4, 5, 6, 7, 8}) {
			t.Errorf("%s: bytes are shared with what was handed in", name)
		}
	}
}

// R3: Get's bytes are the caller's own.
func TestGetApart(t *testing.T) {
	x := rich()
	for _, p := range []api.Piece{{W: 4, H: 2}, {W: 4, H: 1}, {X: 1, W: 2, H: 1}, {X: 1, Y: 1, W: 1, H: 1}, {}} {
		b, err := image.Get(x, 0, p)
		is(t, "Get", err, api.OK)
		want := append([]byte(nil), b...)
		spoilBytes(b)
		if !equal(wide(x), wide(rich())) {
			t.Errorf("Get(%v): the image hangs on the answer", p)
		}
		b, err = image.Get(x, 0, p)
		told(t, "Get once more", b, err, want...)
		spoil(x)
		told(t, "Get of what was changed afterwards", b, api.OK, want...)
		x = rich()
	}
}

// R2: what is refused changes nothing of what was handed in, the room behind its lists neither.
func TestRefusedChangesNothing(t *testing.T) {
	x, b := rich(), roomy([]byte{1, 2, 3})
	image.Put(x, 7, api.L8, api.Level{W: 3, H: 1, Bytes: b})
	image.Put(x, -1, api.L8, api.Level{W: 3, H: 1, Bytes: b})
	image.Put(x, 0, 8, api.Level{W: 3, H: 1, Bytes: b})
	image.Put(x, 0, api.L8, api.Level{W: 2, H: 1, Bytes: b})
	image.Put(x, 1, api.A8, api.Level{W: 3, H: 1, Bytes: b})
	image.Sub(x, 1, api.Piece{W: 3, H: 1}, b)
	image.Sub(x, 0, api.Piece{X: 2, W: 3, H: 1}, b)
	image.Sub(x, 0, api.Piece{W: 2, H: 2}, b)
	image.Sub(x, 0, api.Piece{W: 2, H: 1}, b)
	image.Get(x, 0, api.Piece{Y: 3})
	image.Param(x, api.ParamMin, 5)
	image.Param(x, 0, 1)
	if !equal(wide(x), wide(rich())) || !bytes.Equal(b[:cap(b)], roomy([]byte{1, 2, 3})[:cap(b)]) {
		t.Errorf("%v, % x were changed", x, b)
	}
	odd := grey(flat(3, 1, 1), api.Level{}, flat(1, 1, 1))
	y, ahead := copied(odd), copied(odd)
	image.Generate(y)
	if !equal(wide(y), wide(ahead)) {
		t.Errorf("Generate changed %v", y)
	}
}

// R3: the calls that answer no image change none.
func TestAskedOnly(t *testing.T) {
	x, y := rich(), rich()
	image.Check(x)
	image.Complete(x)
	image.Cost(x)
	image.Same(x, y)
	if !equal(wide(x), wide(rich())) || !equal(wide(y), wide(rich())) {
		t.Error("an image was changed")
	}
}
