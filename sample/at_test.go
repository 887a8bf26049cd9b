package sample_test

import (
	"testing"

	"paintbox/api"
	"paintbox/image"
	"paintbox/sample"
)

// nothing is the colour of what is not complete.
func nothing() api.Vec { return api.Vec{0, 0, 0, api.One} }

// tower answers an image of L8 with all levels from 8 times 2 on: the pixels of level n are 16 n + 10, but the last of each level is 16 n + 14.
func tower(least, most int) api.Image {
	x := api.Image{Format: api.L8, WrapS: api.Clamp, WrapT: api.Clamp, Min: least, Mag: most}
	for n, sides := range [][2]int{{8, 2}, {4, 1}, {2, 1}, {1, 1}} {
		l := api.Level{W: sides[0], H: sides[1]}
		for range sides[0] * sides[1] {
			l.Bytes = append(l.Bytes, byte(16*n+10))
		}
		l.Bytes[len(l.Bytes)-1] += 4
		x.Levels = append(x.Levels, l)
	}
	return x
}

// P9.3: images that are not complete, whatever is asked of them.
func TestIncomplete(t *testing.T) {
	holed := tower(api.NearestMip, api.Linear)
	holed.Levels[2] = api.Level{}
	short := tower(api.LinearMip, api.Nearest)
	short.Levels = short.Levels[:3]
	wide := tower(api.LinearMip, api.Nearest)
	wide.Levels[2] = flat(1, 1, 1)
	odd := clamped(flat(3, 2, 1))
	repeatedS, repeatedT, mip := odd, odd, odd
	repeatedS.WrapS, repeatedT.WrapT, mip.Min = api.Repeat, api.Mirror, api.NearestMip
	rows := map[string]api.Image{
		"new": image.New(), "no level 0": clamped(api.Level{}, flat(1, 1, 1)), "a level not there": holed, "a level too few": short, "a level of other sides": wide,
		"no power of 2, Repeat": repeatedS, "no power of 2, Mirror": repeatedT, "no power of 2, NearestMip": mip,
	}
	for name, x := range rows {
		for _, lod := range []api.Fix{api.Least, -api.One, -1, 0, 1, 32768, api.One, 3 * api.One, api.Most} {
			for _, u := range []api.Fix{0, 30000, api.Most, api.Least} {
				got, err := sample.At(x, u, u, lod)
				told(t, "At: "+name, got, err, nothing())
			}
		}
	}
}

// P9.3: sides that are no powers of 2 are told, if both wraps are Clamp and Min asks for level 0 alone.
func TestOddSides(t *testing.T) {
	x := clamped(flat(3, 2, 1))
	for _, r := range []struct {
		u, v api.Fix
		want byte
	}{{0, 0, 1}, {32768, 0, 2}, {65536, 0, 3}, {0, 65536, 4}, {65535, 65535, 6}, {api.Most, api.Most, 6}, {api.Least, api.Most, 4}} {
		for _, lod := range []api.Fix{api.Least, 0, 1, api.Most} {
			got, err := sample.At(x, r.u, r.v, lod)
			told(t, "At of 3 times 2", got, err, grey(r.want))
		}
	}
}

// lods answers the level of each lod that is above 0, of an image of four levels: half a level is the next one.
func lods() map[api.Fix]int {
	return map[api.Fix]int{
		1: 0, 32767: 0, 32768: 1, 65535: 1, 65536: 1, 65536 + 32767: 1, 65536 + 32768: 2, 2*65536 + 32767: 2, 2*65536 + 32768: 3,
		3 * 65536: 3, 3*65536 + 32767: 3, 3*65536 + 32768: 3, 4 * 65536: 3, 7 * 65536: 3, 99 * 65536: 3, api.Most - 32768: 3, api.Most - 32767: 3, api.Most - 1: 3, api.Most: 3,
	}
}

// P9.3: by a lod above 0 it is Min that counts, and the level of the lod; the two modes tell themselves apart at the last pixel of a level.
func TestLods(t *testing.T) {
	for lod, level := range lods() {
		for least := api.Nearest; least <= api.LinearMip; least++ {
			for most := api.Nearest; most <= api.Linear; most++ {
				x := tower(least, most)
				n := 0
				if least >= api.NearestMip {
					n = level
				}
				last := api.One - api.One/api.Fix(x.Levels[n].W)
				want, err := sample.Nearest(x, n, last, api.One)
				if least == api.Linear || least == api.LinearMip {
					want, err = sample.Linear(x, n, last, api.One)
				}
				told(t, "its level", want, err, want)
				got, err := sample.At(x, last, api.One, lod)
				told(t, "At, lod "+number(int(lod))+", Min "+number(least)+", Mag "+number(most), got, err, want)
			}
		}
	}
}

// P9.3: what the colours are at some lods, number by number: the bound of the last two pixels is half of both by Linear, the last one by Nearest.
func TestLodColours(t *testing.T) {
	mean := func(a, b byte) api.Vec {
		c := (grey(a)[0] + grey(b)[0] + 1) / 2
		return api.Vec{c, c, c, api.One}
	}
	rows := []struct {
		least, most int
		u, lod      api.Fix
		want        api.Vec
	}{
		{api.NearestMip, api.Linear, 57344, 1, grey(14)},
		{api.NearestMip, api.Linear, 57344, 0, mean(10, 14)},
		{api.LinearMip, api.Nearest, 57344, 1, mean(10, 14)},
		{api.LinearMip, api.Nearest, 57344, 0, grey(14)},
		{api.Nearest, api.Linear, 57344, api.Most, grey(14)},
		{api.Linear, api.Nearest, 57344, api.Most, mean(10, 14)},
		{api.NearestMip, api.Linear, 49152, 65536, grey(30)},
		{api.LinearMip, api.Linear, 49152, 65536, mean(26, 30)},
		{api.NearestMip, api.Linear, 32768, 2 * 65536, grey(46)},
		{api.LinearMip, api.Linear, 32768, 2 * 65536, mean(42, 46)},
		{api.LinearMip, api.Linear, 32768, 3 * 65536, grey(62)},
		{api.NearestMip, api.Linear, 0, 9 * 65536, grey(62)},
		{api.NearestMip, api.Linear, 0, 32767, grey(10)},
		{api.NearestMip, api.Linear, 0, 32768, grey(26)},
	}
	for _, r := range rows {
		got, err := sample.At(tower(r.least, r.most), r.u, api.One, r.lod)
		told(t, "At("+number(int(r.u))+", One, "+number(int(r.lod))+"), Min "+number(r.least)+", Mag "+number(r.most), got, err, r.want)
	}
}

// P9.3: by a lod of 0 and below it is Mag that counts, of level 0, whatever Min is.
func TestMag(t *testing.T) {
	for _, lod := range []api.Fix{0, -1, -32768, -32769, -65536, -9 * 65536, api.Least, api.Least + 1} {
		for least := api.Nearest; least <= api.LinearMip; least++ {
			got, err := sample.At(tower(least, api.Nearest), 57344, api.One, lod)
			told(t, "At, Mag Nearest, lod "+number(int(lod)), got, err, grey(14))
			got, err = sample.At(tower(least, api.Linear), 57344, api.One, lod)
			told(t, "At, Mag Linear, lod "+number(int(lod)), got, err, api.Vec{3084, 3084, 3084, api.One}) // 10 and 14: 2570 and 3598
		}
	}
}

// P9.3: levels behind the last one of Count are no level of a lod, even if they are there.
func TestLevelsBehind(t *testing.T) {
	x := clamped(flat(2, 1, 1), api.Level{W: 1, H: 1, Bytes: []byte{50}}, api.Level{W: 2, H: 2, Bytes: []byte{60, 60, 60, 60}}, api.Level{W: 1, H: 1, Bytes: []byte{70}})
	for _, least := range []int{api.NearestMip, api.LinearMip} {
		x.Min = least
		for _, lod := range []api.Fix{32768, 65536, 2 * 65536, 3 * 65536, 99 * 65536, api.Most} {
			got, err := sample.At(x, 0, 0, lod)
			told(t, "At, lod "+number(int(lod)), got, err, grey(50))
		}
	}
	x.Levels = x.Levels[2:] // two levels of 2 times 2 and 1 times 1: complete
	got, err := sample.At(x, 0, 0, api.One)
	told(t, "At of what is left", got, err, grey(70))
}

// P9.3: seven levels, the greatest sides there are.
func TestAllLevels(t *testing.T) {
	x := api.Image{Format: api.L8, WrapS: api.Repeat, WrapT: api.Mirror, Min: api.LinearMip, Mag: api.Linear}
	for n := range 7 {
		l := flat(64>>n, 64>>n, 1)
		for i := range l.Bytes {
			l.Bytes[i] = byte(n + 1)
		}
		x.Levels = append(x.Levels, l)
	}
	for _, least := range []int{api.NearestMip, api.LinearMip} {
		x.Min = least
		for n := range 9 {
			for _, part := range []int{-32768, -1, 0, 1, 32767} {
				lod := api.Fix(n*65536 + part)
				got, err := sample.At(x, 12345, 23456, lod)
				told(t, "At, lod "+number(int(lod)), got, err, grey(byte(min(n, 6)+1)))
			}
		}
	}
}
