package prog_test

import (
	"slices"
	"testing"

	"paintbox/api"
	"paintbox/prog"
)

// same asks whether Same tells this of two programs, either way round.
func same(t *testing.T, what string, a, b api.Program, want bool) {
	t.Helper()
	if prog.Same(a, b) != want || prog.Same(b, a) != want || !prog.Same(a, a) || !prog.Same(b, b) {
		t.Errorf("%s: %v\n%v", what, a, b)
	}
}

// P19.2: programs that differ in one field, or in how many slots there are.
func TestSame(t *testing.T) {
	const v, f = "attribute vec2 a,b;uniform float u;uniform vec2 w;varying float q;varying vec2 r;void main(){q=u;r=a;}", "uniform float x,u;varying vec2 r;varying float q;void main(){gl_FragColor=vec4(q,r,x);}"
	p := linked(t, v, f)
	same(t, "linked twice", p, linked(t, v, f), true)
	same(t, "copied", p, copiedProgram(p), true)
	same(t, "nothing", api.Program{}, api.Program{}, true)
	same(t, "nothing and all", p, api.Program{}, false)
	for _, spoil := range changes(p) {
		x := copiedProgram(p)
		spoil(&x)
		same(t, "a slot", p, x, false)
	}
	for _, spoil := range spoiling(p.Vertex) {
		x := copiedProgram(p)
		spoil(&x.Vertex)
		same(t, "the vertex shader", p, x, false)
	}
	for _, spoil := range spoiling(p.Fragment) {
		x := copiedProgram(p)
		spoil(&x.Fragment)
		same(t, "the fragment shader", p, x, false)
	}
	turned := copiedProgram(p)
	turned.Vertex, turned.Fragment = turned.Fragment, turned.Vertex
	same(t, "the other way round", p, turned, false)
	same(t, "another place", p, linked(t, " "+v, f), false)
	same(t, "another place", p, linked(t, v, f+" uniform int z;"), false)
	same(t, "another varying's order", linked(t, "varying float q,r;"+end, "varying float q,r;"+end), linked(t, "varying float q,r;"+end, "varying float r,q;"+end), false)
}

// P19.2: nil and empty lists are one to Same; whether a program may be is not asked, and room behind a list's end plays no part.
func TestSameOfNil(t *testing.T) {
	empty := api.Program{Attribs: []api.Slot{}, Uniforms: []api.Slot{}, Varyings: []api.Slot{}}
	empty.Vertex.Checked.Types, empty.Fragment.Checked.Uses, empty.Vertex.Code.Instrs = []api.Type{}, []int{}, []api.Instr{}
	same(t, "empty lists", api.Program{}, empty, true)
	same(t, "one empty slot", api.Program{}, api.Program{Attribs: make([]api.Slot, 1)}, false)
	same(t, "two empty slots", api.Program{Uniforms: make([]api.Slot, 2)}, api.Program{Uniforms: make([]api.Slot, 1)}, false)
	same(t, "another list", api.Program{Uniforms: make([]api.Slot, 1)}, api.Program{Varyings: make([]api.Slot, 1)}, false)
	same(t, "what may not be", api.Program{Uniforms: make([]api.Slot, 99)}, api.Program{Uniforms: make([]api.Slot, 99)}, true)
	p := linked(t, end, "uniform float u;"+end)
	x := copiedProgram(p)
	x.Uniforms = append(x.Uniforms, slot("int", "z"))[:1]
	same(t, "room behind", p, x, true)
}

// changes answers what makes of a program another one, in its slots.
func changes(p api.Program) []func(*api.Program) {
	var l []func(*api.Program)
	for _, list := range []func(*api.Program) *[]api.Slot{
		func(p *api.Program) *[]api.Slot { return &p.Attribs },
		func(p *api.Program) *[]api.Slot { return &p.Uniforms },
		func(p *api.Program) *[]api.Slot { return &p.Varyings },
	} {
		l = append(l,
			func(p *api.Program) { *list(p) = nil },
			func(p *api.Program) { *list(p) = append(*list(p), api.Slot{}) },
			func(p *api.Program) { *list(p) = append(*list(p), (*list(p))[0]) },
			func(p *api.Program) { slices.Reverse(*list(p)) },
		)
		for i := range *list(&p) {
			l = append(l,
				func(p *api.Program) { (*list(p))[i].Name += "x" },
				func(p *api.Program) { (*list(p))[i].Name = "" },
				func(p *api.Program) { (*list(p))[i].Type.Base++ },
				func(p *api.Program) { (*list(p))[i].Type.Size++ },
				func(p *api.Program) { *list(p) = slices.Delete(*list(p), i, i+1) },
			)
		}
	}
	return l
}
