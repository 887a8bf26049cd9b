package tri_test

import (
	"reflect"
	"slices"
	"testing"

	"paintbox/api"
	"paintbox/tri"
)

// carried answers three corners with one list of Vars, which has room behind its end, and the whole of that list.
func carried() ([3]api.Win, []api.Vec) {
	room := []api.Vec{{1, 2, 3, 4}, {5, 6, 7, 8}, {9, 9, 9, 9}}
	w := [3]api.Win{at(0, 0), at(0, 16384), at(16384, 0)}
	for i := range w {
		w[i].Vars = room[:2]
	}
	return w, room
}

// P22.1, P22.2, P22.3, R3: what is handed in is not changed, though corners change places; each list of an answer is in memory of its own.
func TestMemory(t *testing.T) {
	w, room := carried()
	row := append(w[:0:0], w[0], w[1], w[2], at(7, 7))
	was, all := slices.Clone(row), slices.Clone(room)
	tri.Check(row[:3]...)
	tri.Area(row[0], row[1], row[2])
	tri.Covers(row[0], row[1], row[2], 1, 1)
	f, e := tri.At(row[0], row[1], row[2], 3, 4)
	g, wrong := tri.At(row[0], row[1], row[2], 3, 4)
	l, bad := tri.Fill(row[0], row[1], row[2], api.Piece{W: 6, H: 6})
	if e != api.OK || wrong != api.OK || bad != api.OK || len(l) != 36 || f.Front {
		t.Fatal(e, wrong, bad, len(l), f)
	}
	lists := [][]api.Vec{f.Vars, g.Vars}
	for _, f := range l {
		lists = append(lists, f.Vars)
	}
	for k, v := range lists {
		if !slices.Equal(v, all[:2]) {
			t.Fatal(k, v)
		}
		_ = append(v, api.Vec{77})
		v[0], v[1] = api.Vec{api.Fix(k)}, api.Vec{api.Fix(-k)}
	}
	for k, v := range lists {
		if !slices.Equal(v, []api.Vec{{api.Fix(k)}, {api.Fix(-k)}}) {
			t.Fatal("two lists share memory:", k, v)
		}
	}
	if !slices.Equal(room, all) || !reflect.DeepEqual(row, was) {
		t.Error(room, row)
	}
	same, _ := tri.Fill(row[0], row[1], row[2], api.Piece{W: 6, H: 6})
	if len(same) != 36 || !slices.Equal(same[5].Vars, all[:2]) {
		t.Error(same)
	}
}

// P22.3, R3: Same changes nothing, and reads nothing behind the ends of lists.
func TestSameMemory(t *testing.T) {
	room := []api.Vec{{1}, {2}, {3}}
	other := []api.Vec{{1}, {2}, {4}}
	l := []api.Frag{{X: 1, Vars: room[:2]}, {X: 2}}
	m := []api.Frag{{X: 1, Vars: other[:2]}, {X: 3}}
	if !tri.Same(l[:1], m[:1]) || tri.Same(l, m) {
		t.Error("Same")
	}
	if !slices.Equal(room, []api.Vec{{1}, {2}, {3}}) || l[1].X != 2 || l[0].X != 1 {
		t.Error(room, l)
	}
}
