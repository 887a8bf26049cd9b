package prog_test

import (
	"fmt"
	"math"
	"slices"
	"testing"

	"paintbox/api"
	"paintbox/prog"
	"paintbox/vm"
)

const (
	vertex   = api.StageVertex
	fragment = api.StageFragment
	one      = api.One
)

// compiled answers the shader of a text.
func compiled(t *testing.T, stage int, text string) api.Shader {
	t.Helper()
	s, spot := prog.Compile(text, stage)
	if spot != (api.Spot{}) {
		t.Fatalf("Compile(%q, %d): %v", text, stage, spot)
	}
	return s
}

// linked answers the program of two texts.
func linked(t *testing.T, v, f string) api.Program {
	t.Helper()
	p, err := prog.Link(compiled(t, vertex, v), compiled(t, fragment, f))
	if err != api.OK {
		t.Fatalf("%s\n%s\nLink: %d", v, f, err)
	}
	return p
}

// unlinked asks whether two shaders are refused with this error, and nothing beside it.
func unlinked(t *testing.T, v, f api.Shader, want api.Errno) {
	t.Helper()
	if p, err := prog.Link(v, f); err != want || !prog.Same(p, api.Program{}) {
		t.Errorf("Link: %v, %d; want %d", p, err, want)
	}
}

// numbers answers the vector of these numbers.
func numbers(l ...float64) api.Vec {
	var v api.Vec
	for i, x := range l {
		v[i] = api.Fix(math.Round(x * 65536))
	}
	return v
}

// plain answers vectors that have one number each, 1, 2 and so on.
func plain(n int) []api.Vec {
	l := make([]api.Vec, n)
	for i := range l {
		l[i][0] = api.Fix(i+1) * one
	}
	return l
}

// slot answers a slot of a name and a type's word.
func slot(kind, name string) api.Slot {
	types := map[string]api.Type{"float": {Base: api.BaseFloat, Size: 1}, "int": {Base: api.BaseInt, Size: 1}, "bool": {Base: api.BaseBool, Size: 1}, "sampler2D": {Base: api.BaseSampler, Size: 1}}
	for n := 2; n <= 4; n++ {
		types[fmt.Sprint("vec", n)] = api.Type{Base: api.BaseFloat, Size: n}
		types[fmt.Sprint("ivec", n)] = api.Type{Base: api.BaseInt, Size: n}
		types[fmt.Sprint("bvec", n)] = api.Type{Base: api.BaseBool, Size: n}
	}
	return api.Slot{Name: name, Type: types[kind]}
}

// slots answers the slots of types' words and names, in turn.
func slots(words ...string) []api.Slot {
	var l []api.Slot
	for pair := range slices.Chunk(words, 2) {
		l = append(l, slot(pair[0], pair[1]))
	}
	return l
}

// vertexRun asks whether just this comes of a program's vertex shader.
func vertexRun(t *testing.T, p api.Program, e api.Env, want api.Result) {
	t.Helper()
	if x, err := prog.RunVertex(p, e); err != api.OK || !vm.Same(x, want) {
		t.Errorf("RunVertex, %v: %v, %d; want %v", e, x, err, want)
	}
}

// fragmentRun asks whether just this comes of a program's fragment shader.
func fragmentRun(t *testing.T, p api.Program, e api.Env, want api.Result) {
	t.Helper()
	if x, err := prog.RunFragment(p, e); err != api.OK || !vm.Same(x, want) {
		t.Errorf("RunFragment, %v: %v, %d; want %v", e, x, err, want)
	}
}

// P19.1 to P19.3: the chapter's examples.
func TestExamples(t *testing.T) {
	const v = "attribute vec4 p;varying vec2 q;void main(){gl_Position=p;q=p.xy;}"
	p := linked(t, v, "varying vec2 q;uniform float u;void main(){gl_FragColor=vec4(q,u,1.0);}")
	if !slices.Equal(p.Attribs, slots("vec4", "p")) || !slices.Equal(p.Uniforms, slots("float", "u")) || !slices.Equal(p.Varyings, slots("vec2", "q")) {
		t.Error(p.Attribs, p.Uniforms, p.Varyings)
	}
	unlinked(t, compiled(t, vertex, v), compiled(t, fragment, "varying vec3 q;uniform float u;void main(){gl_FragColor=vec4(q,u);}"), api.ErrLink)
	for stage := vertex; stage <= fragment; stage++ {
		if s, spot := prog.Compile("void main(){", stage); spot != (api.Spot{Err: api.ErrParse, At: 12}) || !sameShader(s, api.Shader{}) {
			t.Error(s, spot)
		}
	}
	vertexRun(t, p, api.Env{Attribs: []api.Vec{numbers(1, 2, 3, 4)}, Uniforms: plain(1)}, api.Result{Position: numbers(1, 2, 3, 4), Varyings: []api.Vec{numbers(1, 2)}})
	fragmentRun(t, p, api.Env{Varyings: []api.Vec{numbers(1, 2)}, Uniforms: []api.Vec{numbers(5)}}, api.Result{Color: numbers(1, 2, 5, 1)})
}
