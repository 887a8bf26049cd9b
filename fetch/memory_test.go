package fetch_test

import (
	"slices"
	"testing"

	"paintbox/api"
	"paintbox/fetch"
)

// P20.2, P20.3, R3: the bytes are not changed, the room behind their end neither, and what stands in that room is not read.
func TestBytesKept(t *testing.T) {
	room := []byte{1, 2, 3, 4, 5, 6, 7, 8}
	was := slices.Clone(room)
	b := room[:4]
	a := api.Array{Size: 2, Kind: api.KindUByte}
	if _, e := fetch.Vertex(b, a, 2); e != api.ErrShort {
		t.Error(e)
	}
	if _, e := fetch.Row(b, a, 0, 3); e != api.ErrShort {
		t.Error(e)
	}
	if _, e := fetch.Indices(b, api.KindUShort, 0, 3); e != api.ErrShort {
		t.Error(e)
	}
	fetch.Vertex(b, a, 1)
	fetch.Row(b, a, 0, 2)
	fetch.Indices(b, api.KindUByte, 0, 4)
	if !slices.Equal(room, was) {
		t.Error(room)
	}
}

// P20.2, P20.3, P20.4, R3: what was answered is not what was handed in, and no other call's answer.
func TestAnswersNew(t *testing.T) {
	b := []byte{1, 2, 3, 4}
	a := api.Array{Size: 2, Kind: api.KindUByte}
	r1, _ := fetch.Row(b, a, 0, 2)
	i1, _ := fetch.Indices(b, api.KindUByte, 0, 4)
	l := []int{5, 6, 7, 8, 9, 10}[:4]
	p1, _ := fetch.Prims(api.LineLoop, l)
	r2, _ := fetch.Row(b, a, 0, 2)
	i2, _ := fetch.Indices(b, api.KindUByte, 0, 4)
	p2, _ := fetch.Prims(api.LineLoop, l)
	if !slices.Equal(l[:6], []int{5, 6, 7, 8, 9, 10}) {
		t.Error(l[:6])
	}
	clear(b)
	clear(l)
	clear(r2)
	clear(i2)
	clear(p2)
	if !slices.Equal(r1, []api.Vec{{one, 2 * one, 0, one}, {3 * one, 4 * one, 0, one}}) {
		t.Error(r1)
	}
	if !slices.Equal(i1, []int{1, 2, 3, 4}) {
		t.Error(i1)
	}
	if len(p1) != 4 || p1[3] != (api.Prim{N: 2, V: [3]int{8, 5}}) {
		t.Error(p1)
	}
}

// R1, R2: nothing panics, and beside an error there is nothing, whatever is handed in; what may be agrees with the second reading.
func TestSpoilt(t *testing.T) {
	var c chance
	b := c.bytes(70000)
	for range 40000 {
		a := api.Array{Size: c.spoilt(), Kind: c.spoilt(), Normalized: c.below(2) == 0, Stride: c.spoilt(), Offset: c.spoilt()}
		if c.below(2) == 0 {
			a = c.array()
		}
		room := b[:c.below(len(b))]
		x, y := c.spoilt(), c.spoilt()
		if e := fetch.Check(a); (e == api.OK) != maybe(a) {
			t.Fatal(a, e)
		}
		if v, e := fetch.Vertex(room, a, x); e != api.OK && v != (api.Vec{}) {
			t.Fatal(a, x, v, e)
		}
		l, e := fetch.Row(room, a, x, y)
		if want, wrong := row(room, a, x, y); !slices.Equal(l, want) || e != wrong {
			t.Fatal(a, x, y, e, wrong)
		}
		n, e := fetch.Indices(room, a.Kind, x, y)
		if want, wrong := indices(room, a.Kind, x, y); !slices.Equal(n, want) || e != wrong {
			t.Fatal(a, x, y, e, wrong)
		}
		if f, e := fetch.Number(a.Kind, a.Normalized, int64(x)); e != api.OK && f != 0 {
			t.Fatal(a, x, f, e)
		}
		fetch.Prims(x, make([]int, c.below(300)))
		fetch.Width(x)
	}
}
