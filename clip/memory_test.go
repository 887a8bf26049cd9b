package clip_test

import (
	"slices"
	"testing"

	"paintbox/api"
	"paintbox/clip"
)

// carried answers corners with one list of Vars that has room behind its end, and the whole of that list.
func carried() ([]api.Vert, []api.Vec) {
	room := []api.Vec{{1, 2, 3, 4}, {5, 6, 7, 8}, {9, 9, 9, 9}}
	l := []api.Vert{at(0, 0, 0, one), at(3*one, 0, 0, one), at(0, 3*one, 0, one), at(-one, 0, 0, one)}
	for i := range l {
		l[i].Vars = room[:2]
	}
	return l, room
}

// spoil writes over all Vars of what was answered, one list after the other, and asks that no other list is changed by it.
func spoil(t *testing.T, lists ...[]api.Vec) {
	t.Helper()
	for k, l := range lists {
		for i := range l {
			l[i] = api.Vec{api.Fix(-k - 1), 0, 0, 0}
		}
		_ = append(l, api.Vec{77})
	}
	for k, l := range lists {
		for i := range l {
			if l[i] != (api.Vec{api.Fix(-k - 1), 0, 0, 0}) {
				t.Fatal("two lists share memory:", k, l)
			}
		}
	}
}

// P21.1, P21.2, P21.3, R3: what is handed in is not changed, and each list of an answer is in memory of its own.
func TestMemory(t *testing.T) {
	l, room := carried()
	was, all := slices.Clone(l), slices.Clone(room)
	var lists [][]api.Vec
	row, _ := clip.Cut(l[:3], 2)
	for _, p := range row {
		lists = append(lists, p.Vars)
	}
	same, _ := clip.Cut(l[:1], 0)
	lists = append(lists, same[0].Vars)
	fan, _ := clip.Triangle(view(), l[0], l[1], l[2])
	one, _ := clip.Triangle(view(), l[0], l[3], l[0])
	for _, f := range append(fan, one...) {
		for _, w := range f {
			lists = append(lists, w.Vars)
		}
	}
	ends, _ := clip.Line(view(), l[0], l[1])
	uncut, _ := clip.Line(view(), l[0], l[0])
	single, _ := clip.Point(view(), l[0])
	w, _ := clip.Window(view(), l[0])
	for _, w := range slices.Concat(ends, uncut, single, []api.Win{w}) {
		lists = append(lists, w.Vars)
	}
	if len(lists) != 4+1+3*len(fan)+3+2+2+1+1 || len(fan) < 2 {
		t.Fatal(len(lists), len(fan))
	}
	spoil(t, lists...)
	if !slices.Equal(room, all) || !as(l, was) {
		t.Error(l, room)
	}
}

// P21.1, R3: the room behind the end of a row is not written to, and what was answered is not kept.
func TestRowKept(t *testing.T) {
	l, _ := carried()
	was := slices.Clone(l)
	first, _ := clip.Cut(l[:2], 2)
	kept := slices.Clone(first)
	second, _ := clip.Cut(l[:2], 2)
	second[0].Pos[0] = 99
	_ = append(first, api.Vert{})
	if !as(l, was) || !as(first, kept) {
		t.Error(l, first)
	}
	l[0].Pos[0] = 5
	if !as(first, kept) {
		t.Error(first)
	}
}

// R1, R2: nothing panics, and beside an error there is nothing, whatever is handed in; what may be agrees with the second reading.
func TestSpoilt(t *testing.T) {
	var c chance
	side := func() int { return []int{-1 << 63, -65, -1, 0, 1, 32, 63, 64, 65, 1<<63 - 1}[c.below(10)] }
	depth := func() api.Fix { return []api.Fix{api.Least, -1, 0, 1, one - 1, one, one + 1, api.Most}[c.below(8)] }
	for range 40000 {
		v := api.View{X: side(), Y: side(), W: side(), H: side(), Near: depth(), Far: depth()}
		if c.below(2) == 0 {
			v = c.view()
		}
		if clip.Right(v) != windowMay(v) {
			t.Fatal(v)
		}
		var l []api.Vert
		for range 3 + c.below(15) {
			l = append(l, c.corner([]int{0, 1, 4, 5}[min(3, c.below(20)/6)]))
		}
		n := c.below(9) - 1
		row, e := clip.Cut(l, n)
		if want, wrong := cut(l, n); e != wrong || !as(row, want) {
			t.Fatal(l, n, row, e)
		}
		fan, e := clip.Triangle(v, l[0], l[1], l[2])
		if want, wrong := triangle(v, l[0], l[1], l[2]); e != wrong || !as(fan, want) {
			t.Fatal(v, l, fan, e)
		}
		ends, e := clip.Line(v, l[0], l[1])
		if want, wrong := line(v, l[0], l[1]); e != wrong || !as(ends, want) {
			t.Fatal(v, l, ends, e)
		}
		single, e := clip.Point(v, l[0])
		if want, wrong := point(v, l[0]); e != wrong || !as(single, want) {
			t.Fatal(v, l, single, e)
		}
		clip.Area([3]api.Win{{X: side(), Y: side()}, {X: side(), Y: side()}, {X: side(), Y: side()}})
	}
}
