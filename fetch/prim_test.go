package fetch_test

import (
	"slices"
	"testing"

	"paintbox/api"
	"paintbox/fetch"
)

// P20.4: every mode with 0 to 7 numbers, written out.
func TestPrimsWritten(t *testing.T) {
	l := []int{10, 11, 12, 13, 14, 15, 16}
	all := map[int][][]int{
		api.Points:        {{10}, {11}, {12}, {13}, {14}, {15}, {16}},
		api.Lines:         {{10, 11}, {12, 13}, {14, 15}},
		api.LineStrip:     {{10, 11}, {11, 12}, {12, 13}, {13, 14}, {14, 15}, {15, 16}},
		api.Triangles:     {{10, 11, 12}, {13, 14, 15}},
		api.TriangleStrip: {{10, 11, 12}, {12, 11, 13}, {12, 13, 14}, {14, 13, 15}, {14, 15, 16}},
		api.TriangleFan:   {{10, 11, 12}, {10, 12, 13}, {10, 13, 14}, {10, 14, 15}, {10, 15, 16}},
		api.LineLoop:      {{10, 11}, {11, 12}, {12, 13}, {13, 14}, {14, 15}, {15, 16}},
	}
	for mode, prims := range all {
		for n := range 8 {
			var want []api.Prim
			for _, v := range prims {
				if slices.Max(v) < 10+n {
					p := api.Prim{N: len(v)}
					copy(p.V[:], v)
					want = append(want, p)
				}
			}
			if mode == api.LineLoop && n >= 2 {
				want = append(want, api.Prim{N: 2, V: [3]int{l[n-1], 10}})
			}
			if p, e := fetch.Prims(mode, l[:n]); !slices.Equal(p, want) || e != api.OK {
				t.Error(mode, n, p, e)
			}
		}
	}
}

// P20.4: a loop of one has no line, of two it has two, there and back.
func TestPrimsLoop(t *testing.T) {
	for n, want := range [][]api.Prim{nil, nil, {{N: 2, V: [3]int{1, 2}}, {N: 2, V: [3]int{2, 1}}}, {{N: 2, V: [3]int{1, 2}}, {N: 2, V: [3]int{2, 3}}, {N: 2, V: [3]int{3, 1}}}} {
		if p, e := fetch.Prims(api.LineLoop, []int{1, 2, 3}[:n]); !slices.Equal(p, want) || e != api.OK {
			t.Error(n, p, e)
		}
	}
}

// P20.4: no such mode goes ahead of too many numbers.
func TestPrimsWrong(t *testing.T) {
	for _, mode := range append([]int{-1, 7, 8}, far...) {
		for _, n := range []int{0, 1, 3, 256, 257} {
			if p, e := fetch.Prims(mode, make([]int, n)); len(p) != 0 || e != api.ErrArg {
				t.Error(mode, n, len(p), e)
			}
		}
	}
	for mode := range 7 {
		for _, n := range []int{257, 258, 1000} {
			if p, e := fetch.Prims(mode, make([]int, n)); len(p) != 0 || e != api.ErrLong {
				t.Error(mode, n, len(p), e)
			}
		}
	}
}

// P20.4: nil and empty lists have no primitives, and are no error.
func TestPrimsNone(t *testing.T) {
	for mode := range 7 {
		for _, l := range [][]int{nil, {}} {
			if p, e := fetch.Prims(mode, l); len(p) != 0 || e != api.OK {
				t.Error(mode, p, e)
			}
		}
	}
}

// P20.4, P20.5: how many primitives there are, of one N, at every length; numbers of any size, also below 0, against the second reading.
func TestPrimsFollow(t *testing.T) {
	var c chance
	for n := range 257 {
		l := make([]int, n)
		for i := range l {
			l[i] = c.spoilt() + c.below(3)
		}
		counts := []int{n, n / 2, n, n - 1, n / 3, n - 2, n - 2}
		if n < 2 {
			counts[api.LineLoop] = 0
		}
		for mode, of := range []int{1, 2, 2, 2, 3, 3, 3} {
			p, e := fetch.Prims(mode, l)
			if len(p) != max(0, counts[mode]) || e != api.OK || !slices.Equal(p, prims(mode, l)) {
				t.Fatal(mode, n, p, e)
			}
			for _, x := range p {
				if x.N != of || of < 3 && x.V[2] != 0 || of < 2 && x.V[1] != 0 {
					t.Fatal(mode, n, x)
				}
			}
		}
	}
}

// P20.5: each triangle of a strip or of a fan shares two vertices with the one ahead of it, which the two go through in opposite ways.
func TestPrimsBeside(t *testing.T) {
	l := make([]int, 256)
	for i := range l {
		l[i] = 1000 - 3*i
	}
	for _, mode := range []int{api.TriangleStrip, api.TriangleFan} {
		p, e := fetch.Prims(mode, l)
		if len(p) != 254 || e != api.OK {
			t.Fatal(mode, len(p), e)
		}
		for i := 1; i < len(p); i++ {
			if n := shared(p[i-1].V, p[i].V); n != 1 {
				t.Fatal(mode, i, p[i-1], p[i], n)
			}
		}
	}
}

// shared answers how many sides of one triangle the other has the other way round.
func shared(a, b [3]int) int {
	n := 0
	for i := range 3 {
		for k := range 3 {
			if a[i] == b[(k+1)%3] && a[(i+1)%3] == b[k] {
				n++
			}
		}
	}
	return n
}
