package vm_test

import (
	"slices"
	"testing"

	"paintbox/api"
	"paintbox/vm"
)

// P18.2: Same asks each field, each number of it, and how many Varyings there are.
func TestSame(t *testing.T) {
	whole := func() api.Result {
		return api.Result{Position: api.Vec{1, 2, 3, 4}, Size: 5, Varyings: marks(3, 0), Color: api.Vec{6, 7, 8, 9}, Discard: true}
	}
	same := func(what string, a, b api.Result, want bool) {
		t.Helper()
		if vm.Same(a, b) != want || vm.Same(b, a) != want || !vm.Same(a, a) || !vm.Same(b, b) {
			t.Errorf("%s: %v, %v", what, a, b)
		}
	}
	same("made twice", whole(), whole(), true)
	same("nothing", api.Result{}, api.Result{}, true)
	same("nothing and all", api.Result{}, whole(), false)
	same("nil and empty", api.Result{}, api.Result{Varyings: []api.Vec{}}, true)
	same("none and one of noughts", api.Result{}, api.Result{Varyings: make([]api.Vec, 1)}, false)
	same("nothing and a discard", api.Result{}, api.Result{Discard: true}, false)
	for _, start := range []api.Result{{Varyings: make([]api.Vec, 2)}, whole()} {
		for what, change := range changes(start) {
			x := start
			x.Varyings = slices.Clone(start.Varyings)
			change(&x)
			same([]string{"Position", "Size", "Varyings", "Color", "Discard"}[what%5], start, x, false)
		}
	}
	// Memory of its own, and room behind, play no part.
	a, b := whole(), whole()
	b.Varyings = append(b.Varyings, api.Vec{7})[:3]
	same("room behind", a, b, true)
}

// changes answers what makes of a result another one, in one field.
func changes(x api.Result) []func(*api.Result) {
	var l []func(*api.Result)
	for k := range 4 {
		for _, d := range []api.Fix{1, -1, api.Least} {
			l = append(l,
				func(x *api.Result) { x.Position[k] += d },
				func(x *api.Result) { x.Size += d },
				func(x *api.Result) { x.Varyings[k%len(x.Varyings)][k] += d },
				func(x *api.Result) { x.Color[k] += d },
				func(x *api.Result) { x.Discard = !x.Discard },
			)
		}
	}
	for i := range x.Varyings {
		l = append(l,
			func(x *api.Result) { x.Varyings[i][3]++ },
			func(x *api.Result) { x.Varyings = append(x.Varyings, api.Vec{}) },
			func(x *api.Result) { x.Varyings = slices.Delete(x.Varyings, i, i+1) },
			func(x *api.Result) { x.Varyings = nil },
			func(x *api.Result) { x.Varyings[i] = api.Vec{77} },
		)
	}
	return l
}
