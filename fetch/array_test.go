package fetch_test

import (
	"slices"
	"testing"

	"paintbox/api"
	"paintbox/fetch"
)

const one = api.One

// P20.2: sizes 1 to 4, the lowest byte first; what a vertex has not is 0, 0, One.
func TestVertexSizes(t *testing.T) {
	b := []byte{0, 1, 2, 255, 4, 0, 0, 0, 9, 255, 255, 255}
	for i, x := range []struct {
		a    api.Array
		i    int
		want api.Vec
	}{
		{api.Array{Size: 1, Kind: api.KindUByte}, 3, api.Vec{255 * one, 0, 0, one}},
		{api.Array{Size: 2, Kind: api.KindUByte}, 1, api.Vec{2 * one, 255 * one, 0, one}},
		{api.Array{Size: 3, Kind: api.KindUByte}, 1, api.Vec{255 * one, 4 * one, 0, one}},
		{api.Array{Size: 4, Kind: api.KindUByte}, 1, api.Vec{4 * one, 0, 0, 0}},
		{api.Array{Size: 1, Kind: api.KindByte}, 3, api.Vec{-one, 0, 0, one}},
		{api.Array{Size: 1, Kind: api.KindByte, Normalized: true}, 3, api.Vec{-516, 0, 0, one}},
		{api.Array{Size: 2, Kind: api.KindUShort, Offset: 1}, 0, api.Vec{513 * one, 1279 * one, 0, one}},
		{api.Array{Size: 2, Kind: api.KindShort}, 2, api.Vec{-247 * one, -one, 0, one}},
		{api.Array{Size: 1, Kind: api.KindUShort, Normalized: true}, 5, api.Vec{one, 0, 0, one}},
		{api.Array{Size: 3, Kind: api.KindFixed}, 0, api.Vec{-16645888, 4, -247, one}},
		{api.Array{Size: 3, Kind: api.KindFixed, Normalized: true}, 0, api.Vec{-16645888, 4, -247, one}},
	} {
		if v, e := fetch.Vertex(b, x.a, x.i); v != x.want || e != api.OK {
			t.Error(i, v, e)
		}
	}
}

// P20.2: a stride of 0 is the vertex's own bytes; one less makes vertices lap over one another, one more leaves bytes between.
func TestVertexStride(t *testing.T) {
	b := []byte{10, 11, 12, 13, 14, 15, 16, 17, 18, 19, 20}
	for i, x := range []struct {
		stride, i, want int
	}{{0, 0, 10}, {0, 1, 13}, {0, 2, 16}, {2, 1, 12}, {2, 4, 18}, {3, 2, 16}, {4, 1, 14}, {4, 2, 18}, {1, 8, 18}, {255, 0, 10}} {
		w := api.Fix(x.want) * one
		a := api.Array{Size: 3, Kind: api.KindUByte, Stride: x.stride}
		if v, e := fetch.Vertex(b, a, x.i); v != (api.Vec{w, w + one, w + 2*one, one}) || e != api.OK {
			t.Error(i, v, e)
		}
	}
	a := api.Array{Size: 3, Kind: api.KindShort, Stride: 5}
	if v, e := fetch.Vertex(b, a, 1); v != (api.Vec{(15 + 16*256) * one, (17 + 18*256) * one, (19 + 20*256) * one, one}) || e != api.OK {
		t.Error(v, e)
	}
}

// P20.2: the last vertex that fits and the one behind it, for every kind, size and stride.
func TestVertexLast(t *testing.T) {
	for kind := 1; kind <= 5; kind++ {
		for size := 1; size <= 4; size++ {
			for _, stride := range []int{0, 1, size*fetch.Width(kind) - 1, size*fetch.Width(kind) + 1, 255} {
				lastFits(t, api.Array{Size: size, Kind: kind, Stride: stride, Offset: size + kind})
			}
		}
	}
}

func lastFits(t *testing.T, a api.Array) {
	t.Helper()
	step := a.Size * fetch.Width(a.Kind)
	need := step
	if a.Stride != 0 {
		step = a.Stride
	}
	for i := range 4 {
		for less := range need + 1 {
			b := make([]byte, a.Offset+i*step+need-less)
			want, vec := api.OK, api.Vec{3: one}
			if a.Size == 4 {
				vec[3] = 0
			}
			if less > 0 {
				want, vec = api.ErrShort, api.Vec{}
			}
			if v, e := fetch.Vertex(b, a, i); v != vec || e != want {
				t.Error(a, i, less, v, e)
			}
			if v, e := fetch.Vertex(b, a, i+1); v != (api.Vec{}) || e != api.ErrShort {
				t.Error(a, i, less, v, e)
			}
		}
	}
}

// P20.2: the numbers that vertices have, and offsets beyond the bytes.
func TestVertexEnds(t *testing.T) {
	b := make([]byte, 65537)
	b[65535], b[65536] = 7, 8
	a := api.Array{Size: 1, Kind: api.KindUByte}
	for _, x := range []struct {
		i    int
		want api.Errno
	}{{-1 << 63, api.ErrArg}, {-1, api.ErrArg}, {0, api.OK}, {65535, api.OK}, {65536, api.ErrArg}, {1 << 32, api.ErrArg}, {1<<63 - 1, api.ErrArg}} {
		v, e := fetch.Vertex(b, a, x.i)
		if e != x.want || (e != api.OK) != (v == api.Vec{}) {
			t.Error(x, v, e)
		}
		if _, e = fetch.Vertex(nil, a, x.i); (x.want == api.OK) != (e == api.ErrShort) || (x.want == api.ErrArg) != (e == api.ErrArg) {
			t.Error(x, e)
		}
	}
	if v, e := fetch.Vertex(b, a, 65535); v[0] != 7*one || e != api.OK {
		t.Error(v, e)
	}
	for _, offset := range []int{65537, 65538, api.MaxBytes - 1, api.MaxBytes} {
		a.Offset = offset
		if v, e := fetch.Vertex(b, a, 0); v != (api.Vec{}) || e != api.ErrShort {
			t.Error(offset, v, e)
		}
	}
	a.Offset = 65536
	if v, e := fetch.Vertex(b, a, 0); v[0] != 8*one || e != api.OK {
		t.Error(v, e)
	}
	if v, e := fetch.Vertex(b, a, 65535); v != (api.Vec{}) || e != api.ErrShort {
		t.Error(v, e)
	}
}

// P20.2: the farthest vertex that there can be: the greatest offset and the greatest stride.
func TestVertexFarthest(t *testing.T) {
	a := api.Array{Size: 4, Kind: api.KindFixed, Stride: 255, Offset: api.MaxBytes}
	at := api.MaxBytes + 65535*255
	b := make([]byte, at+16)
	b[at], b[at+15] = 1, 1
	if v, e := fetch.Vertex(b, a, 65535); v != (api.Vec{1, 0, 0, 1 << 24}) || e != api.OK {
		t.Error(v, e)
	}
	if v, e := fetch.Vertex(b[:at+15], a, 65535); v != (api.Vec{}) || e != api.ErrShort {
		t.Error(v, e)
	}
	if l, e := fetch.Row(b, a, 65534, 2); e != api.OK || len(l) != 2 || l[1] != (api.Vec{1, 0, 0, 1 << 24}) {
		t.Error(l, e)
	}
}

// P20.2: an array that may not be has no vertices, whatever the bytes.
func TestVertexWrong(t *testing.T) {
	for _, a := range []api.Array{{}, {Size: 5, Kind: 1}, {Size: 0, Kind: 1}, {Size: -1, Kind: 1}, {Size: 1, Kind: 0}, {Size: 1, Kind: 6}, {Size: 1, Kind: 1, Stride: -1}, {Size: 1, Kind: 1, Stride: 256}, {Size: 1, Kind: 1, Offset: -1}, {Size: 1, Kind: 1, Offset: api.MaxBytes + 1}} {
		for _, b := range [][]byte{nil, make([]byte, 300000)} {
			if v, e := fetch.Vertex(b, a, 0); v != (api.Vec{}) || e != api.ErrArg {
				t.Error(a, v, e)
			}
			if l, e := fetch.Row(b, a, 0, 0); len(l) != 0 || e != api.ErrArg {
				t.Error(a, l, e)
			}
			if l, e := fetch.Row(b, a, 0, 257); len(l) != 0 || e != api.ErrArg {
				t.Error(a, l, e)
			}
		}
	}
}

// P20.2: first and count at their ends and beyond; which error comes first.
func TestRowEnds(t *testing.T) {
	a := api.Array{Size: 1, Kind: api.KindUByte}
	b := make([]byte, 66000)
	for i, x := range []struct {
		b            []byte
		first, count int
		want         api.Errno
	}{
		{b, 0, 0, api.OK}, {nil, 0, 0, api.OK}, {nil, 65535, 0, api.OK}, {b, 0, 1, api.OK}, {nil, 0, 1, api.ErrShort},
		{b, 0, 256, api.OK}, {b, 0, 257, api.ErrLong}, {nil, 0, 256, api.ErrShort}, {nil, 0, 257, api.ErrLong}, {b, 0, 65535, api.ErrLong}, {b, 0, 65536, api.ErrArg},
		{b, -1, 0, api.ErrArg}, {b, -1, 1, api.ErrArg}, {b, -1, 257, api.ErrArg}, {b, 65535, 1, api.OK}, {b, 65535, 257, api.ErrLong}, {b, 65536, 0, api.ErrArg}, {b, 65536, 1, api.ErrArg}, {b, 65536, 257, api.ErrArg},
		{b, 0, -1, api.ErrArg}, {nil, 0, -1, api.ErrArg}, {b, 65535, -1, api.ErrArg}, {b, -1 << 63, 1, api.ErrArg}, {b, 1<<63 - 1, 1, api.ErrArg}, {b, 0, 1<<63 - 1, api.ErrArg}, {b, 0, -1 << 63, api.ErrArg}, {b, 1 << 32, 1, api.ErrArg}, {b, 0, 1 << 32, api.ErrArg},
		{b[:300], 100, 200, api.OK}, {b[:299], 100, 200, api.ErrShort}, {b[:300], 44, 256, api.OK}, {b[:300], 45, 256, api.ErrShort}, {b[:300], 299, 1, api.OK}, {b[:300], 300, 1, api.ErrShort}, {b[:300], 300, 0, api.OK},
		{b, 65535, 2, api.OK}, {b[:65536], 65535, 2, api.ErrShort}, {b, 65535, 256, api.OK},
	} {
		l, e := fetch.Row(x.b, a, x.first, x.count)
		if e != x.want || e == api.OK && len(l) != x.count || e != api.OK && len(l) != 0 {
			t.Error(i, len(l), e)
		}
	}
}

// P20.2, P20.5: rows against the second reading and against Vertex, one by one.
func TestRowFollows(t *testing.T) {
	var c chance
	fits := 0
	for range 6000 {
		b, a := c.bytes(c.below(160)), c.array()
		first, count := c.below(6), c.below(8)
		if c.below(8) == 0 {
			first, a.Stride = c.below(65536), 1
			b = append(make([]byte, max(0, first+a.Offset-c.below(3))), c.bytes(c.below(30))...)
		}
		l, e := fetch.Row(b, a, first, count)
		want, wrong := row(b, a, first, count)
		if !slices.Equal(l, want) || e != wrong {
			t.Fatal(b, a, first, count, l, e, want, wrong)
		}
		if e == api.OK && count > 0 {
			fits++
		}
		for i := range count {
			v, short := fetch.Vertex(b, a, first+i)
			if e == api.OK && (v != l[i] || short != api.OK) {
				t.Fatal(b, a, first, i, v, short, l[i])
			}
			if i == count-1 && (short == api.OK) != (e == api.OK) && first+i <= 65535 {
				t.Fatal(b, a, first, count, short, e)
			}
		}
	}
	if fits < 1000 {
		t.Error("too few rows fit:", fits)
	}
}

// P20.2: 256 vertices, each with its own numbers.
func TestRowLongest(t *testing.T) {
	var c chance
	b := c.bytes(256*16 + 3)
	for kind := 1; kind <= 5; kind++ {
		a := api.Array{Size: 4, Kind: kind, Normalized: true, Stride: 16, Offset: 3}
		l, e := fetch.Row(b, a, 0, 256)
		want, _ := row(b, a, 0, 256)
		if len(l) != 256 || !slices.Equal(l, want) || e != api.OK {
			t.Error(kind, len(l), e)
		}
	}
}

// P20.3: both kinds, the lowest byte first, from any offset.
func TestIndicesWritten(t *testing.T) {
	b := []byte{5, 0, 2, 1, 255, 254, 128}
	for i, x := range []struct {
		kind, offset, count int
		want                []int
		err                 api.Errno
	}{
		{api.KindUShort, 0, 2, []int{5, 258}, api.OK},
		{api.KindUShort, 1, 3, []int{512, 65281, 33022}, api.OK},
		{api.KindUShort, 1, 4, nil, api.ErrShort},
		{api.KindUShort, 0, 3, []int{5, 258, 65279}, api.OK},
		{api.KindUShort, 0, 4, nil, api.ErrShort},
		{api.KindUShort, 6, 1, nil, api.ErrShort},
		{api.KindUByte, 0, 7, []int{5, 0, 2, 1, 255, 254, 128}, api.OK},
		{api.KindUByte, 0, 8, nil, api.ErrShort},
		{api.KindUByte, 6, 1, []int{128}, api.OK},
		{api.KindUByte, 6, 2, nil, api.ErrShort},
		{api.KindUByte, 7, 1, nil, api.ErrShort},
		{api.KindUByte, 8, 1, nil, api.ErrShort},
		{api.KindUByte, api.MaxBytes, 1, nil, api.ErrShort},
		{api.KindUByte, 7, 0, nil, api.OK},
		{api.KindUByte, 8, 0, nil, api.OK},
		{api.KindUShort, api.MaxBytes, 0, nil, api.OK},
	} {
		if l, e := fetch.Indices(b, x.kind, x.offset, x.count); !slices.Equal(l, x.want) || e != x.err {
			t.Error(i, l, e)
		}
	}
	b = append(make([]byte, api.MaxBytes), 3, 4)
	if l, e := fetch.Indices(b, api.KindUShort, api.MaxBytes, 1); !slices.Equal(l, []int{1027}) || e != api.OK {
		t.Error(l, e)
	}
}

// P20.3: other kinds, offsets and counts beyond their ends; which error comes first.
func TestIndicesWrong(t *testing.T) {
	b := make([]byte, 1000)
	for _, kind := range append([]int{-1, 0, api.KindByte, api.KindShort, api.KindFixed, 6}, far...) {
		for _, count := range []int{0, 1, 257, -1} {
			if l, e := fetch.Indices(b, kind, 0, count); len(l) != 0 || e != api.ErrArg {
				t.Error(kind, count, l, e)
			}
		}
	}
	for i, x := range []struct {
		b             []byte
		offset, count int
		want          api.Errno
	}{
		{nil, 0, 0, api.OK}, {nil, 0, 1, api.ErrShort}, {nil, 0, 256, api.ErrShort}, {nil, 0, 257, api.ErrLong}, {nil, 0, -1, api.ErrArg},
		{b, -1, 0, api.ErrArg}, {b, -1, 1, api.ErrArg}, {b, -1, 257, api.ErrArg}, {b, api.MaxBytes + 1, 0, api.ErrArg}, {b, api.MaxBytes + 1, 257, api.ErrArg}, {b, api.MaxBytes, 257, api.ErrLong},
		{b, 0, 256, api.OK}, {b, 0, 257, api.ErrLong}, {b, 0, 65536, api.ErrLong}, {b, 0, 1<<63 - 1, api.ErrLong}, {b, 0, -1 << 63, api.ErrArg}, {b, -1 << 63, 1, api.ErrArg}, {b, 1<<63 - 1, 1, api.ErrArg},
	} {
		for _, kind := range []int{api.KindUByte, api.KindUShort} {
			l, e := fetch.Indices(x.b, kind, x.offset, x.count)
			if e != x.want || e == api.OK && len(l) != x.count || e != api.OK && len(l) != 0 {
				t.Error(i, kind, len(l), e)
			}
		}
	}
}

// P20.3: chance bytes against the second reading.
func TestIndicesFollow(t *testing.T) {
	var c chance
	for range 5000 {
		b := c.bytes(c.below(600))
		kind, offset, count := 1+c.below(5), c.below(40), c.below(260)
		l, e := fetch.Indices(b, kind, offset, count)
		want, wrong := indices(b, kind, offset, count)
		if !slices.Equal(l, want) || e != wrong {
			t.Fatal(kind, offset, count, len(b), l, e, want, wrong)
		}
	}
}
