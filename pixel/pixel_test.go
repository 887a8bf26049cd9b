package pixel_test

import (
	"bytes"
	"math"
	"slices"
	"testing"

	"paintbox/api"
	"paintbox/pixel"
)

const (
	one   = api.One
	most  = api.Most
	least = api.Least
)

// formats are all there are, in the order of their numbers.
func formats() []int {
	return []int{api.RGBA8, api.RGB565, api.RGBA4, api.RGB5A1, api.L8, api.A8, api.LA8}
}

// sizes are the bytes of a pixel, format by format.
func sizes() []int {
	return []int{4, 2, 2, 2, 1, 1, 2}
}

// wrongFormats are numbers that no format has.
func wrongFormats() []int {
	return []int{0, 8, 9, -1, -5, math.MinInt, math.MaxInt, 1 << 32, 1<<32 + 1}
}

// wrongWidths are numbers of bits that no channel has.
func wrongWidths() []int {
	return []int{0, 17, 18, 32, 33, 63, 64, 65, -1, -16, math.MinInt, math.MaxInt, 1 << 32, 1<<32 + 8}
}

// edges are the numbers about which something changes.
func edges() []api.Fix {
	return []api.Fix{least, least + 1, -one - 1, -one, -32768, -1, 0, 1, 128, 129, 32767, 32768, 32769, one - 1, one, one + 1, 2 * one, most - 1, most}
}

// chance answers numbers that look like chance, always the same ones.
func chance() func() uint32 {
	state := uint64(5)
	return func() uint32 {
		state = state*6364136223846793005 + 1442695040888963407
		return uint32(state >> 32)
	}
}

// someColours are n colours, most of their numbers from 0 to One, the edges among them.
func someColours(n int) []api.Vec {
	next := chance()
	list := make([]api.Vec, n)
	for i := range list {
		for k := range list[i] {
			x := next()
			switch x >> 29 {
			case 0, 1:
				list[i][k] = edges()[x%uint32(len(edges()))]
			case 2:
				list[i][k] = api.Fix(int32(next()))
			default:
				list[i][k] = api.Fix(x % (1<<16 + 1))
			}
		}
	}
	return list
}

// someBytes are n bytes that look like chance, always the same ones.
func someBytes(n int) []byte {
	next := chance()
	b := make([]byte, n)
	for i := range b {
		b[i] = byte(next() >> 8)
	}
	return b
}

// bitsOf is the bits of a number in the words of the chapter.
func bitsOf(x api.Fix, k int) uint64 {
	raw := uint64(0)
	if x > one {
		raw = 65536
	} else if x > 0 {
		raw = uint64(x)
	}
	levels := uint64(1)
	for range k {
		levels *= 2
	}
	return (raw*(levels-1) + 32768) / 65536
}

// numberOf is the number of bits in the words of the chapter.
func numberOf(x uint64, k int) api.Fix {
	levels := uint64(1)
	for range k {
		levels *= 2
	}
	return api.Fix((x*65536 + (levels-1)/2) / (levels - 1))
}

// packed is a pixel's bytes in the words of the chapter.
func packed(format int, c api.Vec) []byte {
	n := func(place, k int) uint64 { return bitsOf(c[place], k) }
	two := func(x uint64) []byte { return []byte{byte(x % 256), byte(x / 256)} }
	switch format {
	case api.RGBA8:
		return []byte{byte(n(0, 8)), byte(n(1, 8)), byte(n(2, 8)), byte(n(3, 8))}
	case api.RGB565:
		return two((n(0, 5)*64+n(1, 6))*32 + n(2, 5))
	case api.RGBA4:
		return two(((n(0, 4)*16+n(1, 4))*16+n(2, 4))*16 + n(3, 4))
	case api.RGB5A1:
		return two(((n(0, 5)*32+n(1, 5))*32+n(2, 5))*2 + n(3, 1))
	case api.L8:
		return []byte{byte(n(0, 8))}
	case api.A8:
		return []byte{byte(n(3, 8))}
	}
	return []byte{byte(n(0, 8)), byte(n(3, 8))}
}

// unpacked is a pixel's colour in the words of the chapter.
func unpacked(format int, b []byte) api.Vec {
	var x uint64
	if len(b) == 2 {
		x = uint64(b[0]) + 256*uint64(b[1])
	}
	byteAt := func(i int) api.Fix { return numberOf(uint64(b[i]), 8) }
	switch format {
	case api.RGBA8:
		return api.Vec{byteAt(0), byteAt(1), byteAt(2), byteAt(3)}
	case api.RGB565:
		return api.Vec{numberOf(x/2048, 5), numberOf(x/32%64, 6), numberOf(x%32, 5), one}
	case api.RGBA4:
		return api.Vec{numberOf(x/4096, 4), numberOf(x/256%16, 4), numberOf(x/16%16, 4), numberOf(x%16, 4)}
	case api.RGB5A1:
		return api.Vec{numberOf(x/2048, 5), numberOf(x/64%32, 5), numberOf(x/2%32, 5), numberOf(x%2, 1)}
	case api.L8:
		return api.Vec{byteAt(0), byteAt(0), byteAt(0), one}
	case api.A8:
		return api.Vec{0, 0, 0, byteAt(0)}
	}
	return api.Vec{byteAt(0), byteAt(0), byteAt(0), byteAt(1)}
}

func wantBits(t *testing.T, x api.Fix, k int, want uint32) {
	t.Helper()
	if got, err := pixel.Bits(x, k); err != api.OK || got != want {
		t.Fatalf("Bits(raw %d, %d): got %d, error %d; want %d, no error", x, k, got, err, want)
	}
}

func wantNumber(t *testing.T, x uint32, k int, want api.Fix) {
	t.Helper()
	if got, err := pixel.Number(x, k); err != api.OK || got != want {
		t.Fatalf("Number(%d, %d): got raw %d, error %d; want %d, no error", x, k, got, err, want)
	}
}

func wantPacked(t *testing.T, format int, c api.Vec, want ...byte) {
	t.Helper()
	if got, err := pixel.Pack(format, c); err != api.OK || !bytes.Equal(got, want) {
		t.Fatalf("Pack(%d, raws %v): got % x, error %d; want % x, no error", format, c, got, err, want)
	}
}

func wantUnpacked(t *testing.T, format int, b []byte, want api.Vec) {
	t.Helper()
	if got, err := pixel.Unpack(format, b); err != api.OK || got != want {
		t.Fatalf("Unpack(%d, % x): got raws %v, error %d; want %v, no error", format, b, got, err, want)
	}
}

// wantNone is a call that answered a list of length n beside an error.
func wantNone(t *testing.T, what string, n int, err, want api.Errno) {
	t.Helper()
	if err != want || n != 0 {
		t.Fatalf("%s: got %d items, error %d; want none, error %d", what, n, err, want)
	}
}

// P5.1: ordinary numbers, halves, and both ends.
func TestBits(t *testing.T) {
	for _, c := range []struct {
		x    api.Fix
		k    int
		want uint32
	}{
		{one, 5, 31}, {32768, 8, 128}, {-1, 8, 0},
		{32767, 1, 0}, {32768, 1, 1}, {one, 1, 1}, {0, 1, 0},
		{10922, 2, 0}, {10923, 2, 1}, {32767, 2, 1}, {32768, 2, 2},
		{16384, 4, 4}, {32767, 4, 7}, {32768, 4, 8},
		{128, 8, 0}, {129, 8, 1}, {16384, 8, 64}, {one - 1, 8, 255}, {one - 129, 8, 254}, {one - 128, 8, 255},
		{1, 15, 0}, {1, 16, 1}, {32768, 16, 32768}, {32769, 16, 32768}, {one - 1, 16, 65534}, {one, 16, 65535},
		{one + 1, 16, 65535}, {most, 16, 65535}, {most, 1, 1}, {2 * one, 8, 255},
		{least, 16, 0}, {least, 1, 0}, {-one, 16, 0}, {-32768, 8, 0},
	} {
		wantBits(t, c.x, c.k, c.want)
	}
}

// P5.1: all numbers from 0 to One, and the edges beside them, with each number of bits.
func TestBitsOfAll(t *testing.T) {
	for k := 1; k <= 16; k++ {
		for x := api.Fix(-2); x <= one+2; x++ {
			wantBits(t, x, k, uint32(bitsOf(x, k)))
		}
		for _, x := range edges() {
			wantBits(t, x, k, uint32(bitsOf(x, k)))
		}
	}
}

// P5.1: ordinary bits, and both ends.
func TestNumber(t *testing.T) {
	for _, c := range []struct {
		x    uint32
		k    int
		want api.Fix
	}{
		{255, 8, one}, {1, 1, one}, {128, 8, 32897}, {0, 1, 0}, {0, 16, 0},
		{1, 2, 21845}, {2, 2, 43691}, {3, 2, one}, {4, 3, 37449}, {8, 4, 34953}, {14, 4, 61167},
		{1, 5, 2114}, {15, 5, 31711}, {16, 5, 33825}, {31, 6, 32248}, {62, 6, 64496},
		{1, 8, 257}, {127, 8, 32639}, {254, 8, 65279}, {254, 15, 508},
		{1, 16, 1}, {32767, 16, 32767}, {32768, 16, 32769}, {65534, 16, 65535}, {65535, 16, one},
	} {
		wantNumber(t, c.x, c.k, c.want)
	}
	for k := 1; k <= 16; k++ {
		for x := range uint32(1) << k {
			wantNumber(t, x, k, numberOf(uint64(x), k))
		}
	}
}

// P5.1: numbers of bits that there are not, and bits that are too great.
func TestBitsAndNumberWrong(t *testing.T) {
	for _, k := range wrongWidths() {
		for _, x := range edges() {
			if got, err := pixel.Bits(x, k); err != api.ErrArg || got != 0 {
				t.Errorf("Bits(raw %d, %d): got %d, error %d; want 0, ErrArg", x, k, got, err)
			}
		}
		for _, x := range []uint32{0, 1, 255, 65535, 65536, math.MaxUint32} {
			if got, err := pixel.Number(x, k); err != api.ErrArg || got != 0 {
				t.Errorf("Number(%d, %d): got raw %d, error %d; want 0, ErrArg", x, k, got, err)
			}
		}
	}
	for k := 1; k <= 16; k++ {
		wantNumber(t, 1<<k-1, k, one)
		for _, x := range []uint32{1 << k, 1<<k + 1, 1 << 31, math.MaxUint32} {
			if got, err := pixel.Number(x, k); err != api.ErrArg || got != 0 {
				t.Errorf("Number(%d, %d): got raw %d, error %d; want 0, ErrArg", x, k, got, err)
			}
		}
	}
}

// P5.2: the formats have the document's numbers and sizes; no others have any.
func TestSize(t *testing.T) {
	for i, format := range formats() {
		if format != i+1 {
			t.Errorf("format %d has the number %d", i+1, format)
		}
		if got := pixel.Size(format); got != sizes()[i] {
			t.Errorf("Size(%d): got %d, want %d", format, got, sizes()[i])
		}
	}
	for _, format := range wrongFormats() {
		if got := pixel.Size(format); got != 0 {
			t.Errorf("Size(%d): got %d, want 0", format, got)
		}
	}
}

// P5.2: each format, each of its channels alone, all of them, and none.
func TestPack(t *testing.T) {
	for _, c := range []struct {
		format int
		colour api.Vec
		want   []byte
	}{
		{api.RGBA8, api.Vec{0, 32768, one, one}, []byte{0x00, 0x80, 0xFF, 0xFF}},
		{api.RGBA8, api.Vec{one}, []byte{0xFF, 0, 0, 0}},
		{api.RGBA8, api.Vec{257, 514, 771, 1028}, []byte{1, 2, 3, 4}},
		{api.RGBA8, api.Vec{most, least, one + 1, -1}, []byte{0xFF, 0, 0xFF, 0}},
		{api.RGB565, api.Vec{one, 0, 0, 0}, []byte{0x00, 0xF8}},
		{api.RGB565, api.Vec{0, one, 0, 0}, []byte{0xE0, 0x07}},
		{api.RGB565, api.Vec{0, 0, one, 0}, []byte{0x1F, 0x00}},
		{api.RGB565, api.Vec{0, 0, 0, one}, []byte{0x00, 0x00}},
		{api.RGB565, api.Vec{one, one, one, 0}, []byte{0xFF, 0xFF}},
		{api.RGBA4, api.Vec{one, 0, 0, 0}, []byte{0x00, 0xF0}},
		{api.RGBA4, api.Vec{0, one, 0, 0}, []byte{0x00, 0x0F}},
		{api.RGBA4, api.Vec{0, 0, one, 0}, []byte{0xF0, 0x00}},
		{api.RGBA4, api.Vec{0, 0, 0, one}, []byte{0x0F, 0x00}},
		{api.RGB5A1, api.Vec{one, 0, 0, 0}, []byte{0x00, 0xF8}},
		{api.RGB5A1, api.Vec{0, one, 0, 0}, []byte{0xC0, 0x07}},
		{api.RGB5A1, api.Vec{0, 0, one, 0}, []byte{0x3E, 0x00}},
		{api.RGB5A1, api.Vec{0, 0, 0, 32768}, []byte{0x01, 0x00}},
		{api.RGB5A1, api.Vec{0, 0, 0, 32767}, []byte{0x00, 0x00}},
		{api.L8, api.Vec{32768, one, one, one}, []byte{0x80}},
		{api.L8, api.Vec{0, one, one, one}, []byte{0x00}},
		{api.A8, api.Vec{one, one, one, 0}, []byte{0x00}},
		{api.A8, api.Vec{0, 0, 0, 32768}, []byte{0x80}},
		{api.LA8, api.Vec{one, 0, 0, 0}, []byte{0xFF, 0x00}},
		{api.LA8, api.Vec{0, one, one, 257}, []byte{0x00, 0x01}},
	} {
		wantPacked(t, c.format, c.colour, c.want...)
	}
	for _, format := range formats() {
		for _, c := range someColours(2000) {
			wantPacked(t, format, c, packed(format, c)...)
		}
	}
}

// P5.2: each format, each of its channels alone, all of them, and none.
func TestUnpack(t *testing.T) {
	for _, c := range []struct {
		format int
		bytes  []byte
		want   api.Vec
	}{
		{api.RGBA8, []byte{1, 2, 3, 4}, api.Vec{257, 514, 771, 1028}},
		{api.RGBA8, []byte{0, 0, 0, 0}, api.Vec{}},
		{api.RGBA8, []byte{0, 128, 0, 255}, api.Vec{0, 32897, 0, one}},
		{api.RGB565, []byte{0x00, 0xF8}, api.Vec{one, 0, 0, one}},
		{api.RGB565, []byte{0xE0, 0x07}, api.Vec{0, one, 0, one}},
		{api.RGB565, []byte{0x1F, 0x00}, api.Vec{0, 0, one, one}},
		{api.RGB565, []byte{0x00, 0x00}, api.Vec{0, 0, 0, one}},
		{api.RGB565, []byte{0x20, 0x08}, api.Vec{2114, 1040, 0, one}},
		{api.RGBA4, []byte{0x0F, 0x00}, api.Vec{0, 0, 0, one}},
		{api.RGBA4, []byte{0x18, 0xE7}, api.Vec{61167, 30583, 4369, 34953}},
		{api.RGB5A1, []byte{0x01, 0x00}, api.Vec{0, 0, 0, one}},
		{api.RGB5A1, []byte{0x42, 0x08}, api.Vec{2114, 2114, 2114, 0}},
		{api.L8, []byte{255}, api.Vec{one, one, one, one}},
		{api.L8, []byte{128}, api.Vec{32897, 32897, 32897, one}},
		{api.L8, []byte{0}, api.Vec{0, 0, 0, one}},
		{api.A8, []byte{0}, api.Vec{}},
		{api.A8, []byte{255}, api.Vec{0, 0, 0, one}},
		{api.LA8, []byte{1, 128}, api.Vec{257, 257, 257, 32897}},
		{api.LA8, []byte{255, 0}, api.Vec{one, one, one, 0}},
	} {
		wantUnpacked(t, c.format, c.bytes, c.want)
	}
	for i, format := range formats() {
		for _, b := range pixels(sizes()[i]) {
			wantUnpacked(t, format, b, unpacked(format, b))
		}
	}
}

// pixels are all pixels of one or two bytes; of four, each byte alone with all values, and some others.
func pixels(size int) [][]byte {
	var list [][]byte
	switch size {
	case 1:
		for x := range 1 << 8 {
			list = append(list, []byte{byte(x)})
		}
	case 2:
		for x := range 1 << 16 {
			list = append(list, []byte{byte(x), byte(x >> 8)})
		}
	default:
		for x := range 1 << 8 {
			for at := range size {
				b := make([]byte, size)
				b[at] = byte(x)
				list = append(list, b)
			}
		}
		list = append(list, slices.Collect(slices.Chunk(someBytes(size*5000), size))...)
	}
	return list
}

// P5.2: formats that there are not go ahead of bytes that are too few or too many.
func TestPackAndUnpackWrong(t *testing.T) {
	for _, format := range wrongFormats() {
		b, err := pixel.Pack(format, api.Vec{one, one, one, one})
		wantNone(t, "Pack of no format", len(b), err, api.ErrArg)
		for n := range 6 {
			if c, err := pixel.Unpack(format, someBytes(n)); err != api.ErrArg || c != (api.Vec{}) {
				t.Errorf("Unpack(%d, %d bytes): got raws %v, error %d; want noughts, ErrArg", format, n, c, err)
			}
		}
	}
	for i, format := range formats() {
		size := sizes()[i]
		for _, n := range []int{0, size - 1, size + 1, 2 * size, 3 * size, 8, 64} {
			if n == size {
				continue
			}
			if c, err := pixel.Unpack(format, bytes.Repeat([]byte{255}, n)); err != api.ErrShort || c != (api.Vec{}) {
				t.Errorf("Unpack(%d, %d bytes): got raws %v, error %d; want noughts, ErrShort", format, n, c, err)
			}
		}
		if c, err := pixel.Unpack(format, nil); err != api.ErrShort || c != (api.Vec{}) {
			t.Errorf("Unpack(%d, nil): got raws %v, error %d; want noughts, ErrShort", format, c, err)
		}
	}
}

// P5.3: rows of no pixel, of one and of many.
func TestRow(t *testing.T) {
	for i, format := range formats() {
		size := sizes()[i]
		for _, n := range []int{0, 1, 2, 3, 7, 64, 500} {
			b := someBytes(n * size)
			l, err := pixel.Row(format, b)
			if err != api.OK || len(l) != n {
				t.Fatalf("Row(%d, %d pixels): got %d, error %d", format, n, len(l), err)
			}
			for k, c := range l {
				if want := unpacked(format, b[k*size:(k+1)*size]); c != want {
					t.Fatalf("Row(%d, %d pixels), pixel %d: got raws %v, want %v", format, n, k, c, want)
				}
			}
		}
		l, err := pixel.Row(format, nil)
		wantNone(t, "Row of nil", len(l), err, api.OK)
	}
}

// P5.3: lists of no colour, of one and of many.
func TestLay(t *testing.T) {
	for _, format := range formats() {
		for _, n := range []int{0, 1, 2, 3, 7, 64, 500} {
			colours := someColours(n)
			var want []byte
			for _, c := range colours {
				want = append(want, packed(format, c)...)
			}
			if b, err := pixel.Lay(format, colours); err != api.OK || !bytes.Equal(b, want) {
				t.Fatalf("Lay(%d, %d colours): got % x, error %d; want % x", format, n, b, err, want)
			}
		}
		b, err := pixel.Lay(format, nil)
		wantNone(t, "Lay of nil", len(b), err, api.OK)
	}
}

// P5.3: formats that there are not, ahead of rows that end within a pixel.
func TestRowAndLayWrong(t *testing.T) {
	for _, format := range wrongFormats() {
		for n := range 9 {
			l, err := pixel.Row(format, someBytes(n))
			wantNone(t, "Row of no format", len(l), err, api.ErrArg)
			b, err := pixel.Lay(format, someColours(n))
			wantNone(t, "Lay of no format", len(b), err, api.ErrArg)
		}
	}
	for i, format := range formats() {
		for n := range 40 {
			if n%sizes()[i] != 0 {
				l, err := pixel.Row(format, someBytes(n))
				wantNone(t, "Row that ends within a pixel", len(l), err, api.ErrShort)
			}
		}
	}
}

// P5.4: the bits of a number of bits are these; 0 has none, One all of them.
func TestBitsOfNumbers(t *testing.T) {
	for k := 1; k <= 16; k++ {
		for x := range uint32(1) << k {
			n, err := pixel.Number(x, k)
			if err != api.OK {
				t.Fatalf("Number(%d, %d): error %d", x, k, err)
			}
			wantBits(t, n, k, x)
		}
		wantBits(t, 0, k, 0)
		wantBits(t, one, k, 1<<k-1)
	}
}

// P5.4: a greater number never has lesser bits.
func TestBitsRise(t *testing.T) {
	for k := 1; k <= 16; k++ {
		var last uint32
		rise := func(x api.Fix) {
			got, err := pixel.Bits(x, k)
			if err != api.OK || got < last {
				t.Fatalf("Bits(raw %d, %d): got %d, error %d behind %d", x, k, got, err, last)
			}
			last = got
		}
		for _, x := range []api.Fix{least, least + 1, -one, -2} {
			rise(x)
		}
		for x := api.Fix(-1); x <= one+1; x++ {
			rise(x)
		}
		for _, x := range []api.Fix{2 * one, most - 1, most} {
			rise(x)
		}
	}
}

// P5.4: what was unpacked is packed as the same bytes.
func TestPackOfUnpack(t *testing.T) {
	for i, format := range formats() {
		for _, b := range pixels(sizes()[i]) {
			c, err := pixel.Unpack(format, b)
			if err != api.OK {
				t.Fatalf("Unpack(%d, % x): error %d", format, b, err)
			}
			wantPacked(t, format, c, b...)
		}
	}
}

// P5.4: Row of Lay of what Row told is that, and the bytes are the same.
func TestRowOfLay(t *testing.T) {
	for _, format := range formats() {
		for _, n := range []int{0, 4, 16, 4000} {
			b := someBytes(n)
			told, err := pixel.Row(format, b)
			if err != api.OK {
				t.Fatalf("Row(%d, %d bytes): error %d", format, n, err)
			}
			laid, err := pixel.Lay(format, told)
			if err != api.OK || !bytes.Equal(laid, b) {
				t.Fatalf("Lay(%d, what Row told): error %d, or other bytes", format, err)
			}
			again, err := pixel.Row(format, laid)
			if err != api.OK || !slices.Equal(again, told) {
				t.Fatalf("Row(%d, what Lay told): error %d, or other colours", format, err)
			}
		}
	}
}

// R3: what is handed in is not changed, the room behind its end neither, and answers share no memory with it or with one another.
func TestNothingIsShared(t *testing.T) {
	for i, format := range formats() {
		size := sizes()[i]
		room := bytes.Repeat([]byte{0xA5}, 64)
		row, _ := pixel.Row(format, room[:8*size])
		pixel.Unpack(format, room[:size])
		if !bytes.Equal(room, bytes.Repeat([]byte{0xA5}, 64)) {
			t.Errorf("format %d: bytes that were handed in have changed", format)
		}
		kept := slices.Clone(row)
		room[0] ^= 0xFF
		if !slices.Equal(row, kept) {
			t.Errorf("format %d: a row follows its bytes", format)
		}
		colours := someColours(8)
		first, _ := pixel.Lay(format, colours[:4])
		second, _ := pixel.Lay(format, colours[:4])
		if !slices.Equal(colours, someColours(8)) {
			t.Errorf("format %d: colours that were handed in have changed", format)
		}
		first[0] ^= 0xFF
		if first[0] == second[0] {
			t.Errorf("format %d: two answers share their memory", format)
		}
		a, _ := pixel.Pack(format, colours[0])
		b, _ := pixel.Pack(format, colours[0])
		a[0] ^= 0xFF
		if a[0] == b[0] {
			t.Errorf("format %d: two pixels share their memory", format)
		}
	}
}
