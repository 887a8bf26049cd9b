package prog_test

import (
	"fmt"
	"slices"
	"strings"
	"testing"

	"paintbox/api"
	"paintbox/prog"
	"paintbox/vm"
)

// refusesRun asks whether a run is refused, and nothing is told beside.
func refusesRun(t *testing.T, run func(api.Program, api.Env) (api.Result, api.Errno), p api.Program, e api.Env) {
	t.Helper()
	if x, err := run(p, e); err != api.ErrArg || !vm.Same(x, api.Result{}) {
		t.Errorf("%v: %v, %d", e, x, err)
	}
}

// P19.3: one Attrib, Uniform or Varying too few or too many, and lists that are not asked for.
func TestCounts(t *testing.T) {
	const handed = "uniform float u,w;uniform vec2 x;"
	p := linked(t, "attribute vec2 a,b;varying float q,r,s;"+handed+end, handed+"uniform int y;varying float r,q;"+end)
	if len(p.Attribs) != 2 || len(p.Uniforms) != 4 || len(p.Varyings) != 2 {
		t.Fatal(p)
	}
	for a := range 5 {
		for u := range 7 {
			for v := range 5 {
				e := api.Env{Attribs: plain(a), Uniforms: plain(u), Varyings: plain(v)}
				if a == 2 && u == 4 && v == 0 {
					vertexRun(t, p, e, api.Result{Varyings: make([]api.Vec, 2)})
				} else {
					refusesRun(t, prog.RunVertex, p, e)
				}
				if a == 0 && u == 4 && v == 2 {
					fragmentRun(t, p, e, api.Result{})
				} else {
					refusesRun(t, prog.RunFragment, p, e)
				}
			}
		}
	}
	// Nil and empty lists are one.
	none := linked(t, end, end)
	for _, e := range []api.Env{{}, {Attribs: []api.Vec{}, Uniforms: []api.Vec{}, Varyings: []api.Vec{}, Images: []api.Image{}}, {Attribs: plain(1)[:0], Uniforms: plain(1)[:0], Varyings: plain(1)[:0]}} {
		vertexRun(t, none, e, api.Result{})
		fragmentRun(t, none, e, api.Result{})
	}
	for _, e := range []api.Env{{Attribs: plain(1)}, {Uniforms: plain(1)}, {Varyings: plain(1)}} {
		refusesRun(t, prog.RunVertex, none, e)
		refusesRun(t, prog.RunFragment, none, e)
	}
}

// P19.3: uniforms are as many as the program has, not as many as the shader has; that the other shader alone has them, or none, does not matter.
func TestCountsOfProgram(t *testing.T) {
	for _, r := range []struct {
		v, f string
		n    int
	}{
		{"uniform float u;", "", 1}, {"", "uniform float u;", 1}, {"uniform float u;", "uniform float u;", 1}, {"uniform float u;", "uniform float w;", 2}, {"uniform float u,x;", "uniform float w,x;", 3},
	} {
		p := linked(t, r.v+end, r.f+end)
		for n := range 5 {
			e := api.Env{Uniforms: plain(n)}
			if n == r.n {
				vertexRun(t, p, e, api.Result{})
				fragmentRun(t, p, e, api.Result{})
			} else {
				refusesRun(t, prog.RunVertex, p, e)
				refusesRun(t, prog.RunFragment, p, e)
			}
		}
	}
}

// P19.3: each shader's uniforms are those of the program's numbers.
func TestUniforms(t *testing.T) {
	p := linked(t, "uniform float a;uniform float b,c;void main(){gl_Position=vec4(c,a,b,0);gl_PointSize=b;}",
		"uniform float d;uniform float c;uniform float e;uniform float a;void main(){gl_FragColor=vec4(a,c,d,e);}")
	if !slices.Equal(p.Uniforms, slots("float", "a", "float", "b", "float", "c", "float", "d", "float", "e")) {
		t.Fatal(p.Uniforms)
	}
	e := api.Env{Uniforms: plain(5)}
	vertexRun(t, p, e, api.Result{Position: numbers(3, 1, 2), Size: 2 * one})
	fragmentRun(t, p, e, api.Result{Color: numbers(1, 3, 4, 5)})
	// The same names in the other order.
	p = linked(t, "uniform vec2 a,b;void main(){gl_Position=vec4(a,b);}", "uniform vec2 b,a;void main(){gl_FragColor=vec4(a,b);}")
	e = api.Env{Uniforms: []api.Vec{numbers(1, 2, 77, 77), numbers(3, 4, 77, 77)}}
	vertexRun(t, p, e, api.Result{Position: numbers(1, 2, 3, 4)})
	fragmentRun(t, p, e, api.Result{Color: numbers(1, 2, 3, 4)})
	// The fragment shader's alone.
	p = linked(t, "uniform vec4 x;"+end, "uniform float b;uniform ivec2 c;uniform bool d;void main(){gl_FragColor=vec4(b,c,d);}")
	fragmentRun(t, p, api.Env{Uniforms: []api.Vec{numbers(9, 9, 9, 9), numbers(0.5), {2, 3}, {7}}}, api.Result{Color: numbers(0.5, 2, 3, 1)})
}

// P19.3: as many uniforms as there can be, through one another, each one read.
func TestMostUniforms(t *testing.T) {
	var v, f, read string
	for i := range api.MaxUniforms {
		v += fmt.Sprintf("uniform float n%d;", i)
		f += fmt.Sprintf("uniform float n%d;", api.MaxUniforms-1-i)
		read += fmt.Sprintf("if(pick==%d)out.x=n%d;", i, i)
	}
	names := strings.NewReplacer("pick", "int(n31)", "out", "gl_Position")
	p := linked(t, v+"void main(){"+names.Replace(read)+"}", f+"void main(){"+strings.ReplaceAll(names.Replace(read), "gl_Position", "gl_FragColor")+"}")
	for i := range api.MaxUniforms {
		e := api.Env{Uniforms: make([]api.Vec, api.MaxUniforms)}
		for k := range e.Uniforms {
			e.Uniforms[k][0] = api.Fix(100+k) * one
		}
		e.Uniforms[31][0] = api.Fix(i) * one
		want := e.Uniforms[i]
		vertexRun(t, p, e, api.Result{Position: want})
		fragmentRun(t, p, e, api.Result{Color: want})
	}
}

// P19.3: of RunVertex come the program's varyings, in the program's order.
func TestVaryings(t *testing.T) {
	const v = "attribute vec4 p;varying vec2 a;varying float b;varying vec3 c;varying vec4 d;void main(){d=p.wzyx;c=p.xyz;b=p.w;a=p.yz;}"
	values := map[string]api.Vec{"a": numbers(2, 3), "b": numbers(4), "c": numbers(1, 2, 3), "d": numbers(4, 3, 2, 1)}
	words := map[string]string{"a": "vec2", "b": "float", "c": "vec3", "d": "vec4"}
	e := api.Env{Attribs: []api.Vec{numbers(1, 2, 3, 4)}}
	for _, taken := range []string{"", "a", "b", "c", "d", "ab", "ba", "dcba", "abcd", "cadb", "bd", "db", "acd", "dac"} {
		f, read := "", "0"
		var want []api.Vec
		for _, letter := range strings.Split(taken, "") {
			if letter != "" {
				f += "varying " + words[letter] + " " + letter + ";"
				want = append(want, values[letter])
				read += "+float(" + letter + ")"
			}
		}
		p := linked(t, v, f+"void main(){gl_FragColor.x=float("+strings.ReplaceAll(read, "0+", "")+");}")
		vertexRun(t, p, e, api.Result{Varyings: want})
		sum := api.Fix(0)
		for _, x := range want {
			sum += x[0]
		}
		fragmentRun(t, p, api.Env{Varyings: want}, api.Result{Color: api.Vec{sum}})
	}
}

// P19.3: the fragment shader's varyings are those that are handed in, in its own order; numbers behind a type's size play no part.
func TestHandedVaryings(t *testing.T) {
	p := linked(t, "varying vec2 a;varying float b;varying vec2 c;"+end, "varying vec2 c;varying float b;varying vec2 a;void main(){gl_FragColor=vec4(a.y,b,c);}")
	fragmentRun(t, p, api.Env{Varyings: []api.Vec{numbers(1, 2, 77, 77), numbers(3, 77, 77, 77), numbers(4, 5, 77, 77)}}, api.Result{Color: numbers(5, 3, 1, 2)})
	vertexRun(t, p, api.Env{}, api.Result{Varyings: make([]api.Vec, 3)})
}

// P19.3: the other surroundings are handed on: attributes, images, where the cell is, which way it faces, where in the point.
func TestSurroundings(t *testing.T) {
	const read = "uniform sampler2D s;void main(){"
	p := linked(t, "attribute float a;attribute vec2 b,c;"+read+"gl_Position=vec4(a,b.y,c.x,texture2D(s,c).x);}",
		read+"gl_FragColor=vec4(gl_FragCoord.w,gl_FrontFacing,gl_PointCoord.y,texture2D(s,gl_PointCoord).x);}")
	images := pictures()
	for place, want := range []api.Fix{0, one, 0, 0, 0} {
		e := api.Env{Uniforms: []api.Vec{{api.Fix(place - 1)}}, Images: images}
		e.Attribs = []api.Vec{numbers(5), numbers(6, 7), numbers(0.75, 0.5)}
		vertexRun(t, p, e, api.Result{Position: append4(numbers(5, 7, 0.75), want)})
		for _, front := range []bool{true, false} {
			e := api.Env{Uniforms: e.Uniforms, Images: images, Coord: numbers(1, 2, 3, 8), Front: front, Point: numbers(0.75, 0.5, 77, 77)}
			color := append4(numbers(8, 0, 0.5), want)
			if front {
				color[1] = one
			}
			fragmentRun(t, p, e, api.Result{Color: color})
		}
	}
}

// append4 answers a vector with another fourth number.
func append4(v api.Vec, x api.Fix) api.Vec {
	v[3] = x
	return v
}

// pictures answers a whole picture, one whose bytes are too few, and none.
func pictures() []api.Image {
	x := api.Image{Format: api.L8, Levels: []api.Level{{W: 2, H: 1, Bytes: []byte{0, 255}}}, WrapS: api.Clamp, WrapT: api.Clamp, Min: api.Nearest, Mag: api.Nearest}
	short := x
	short.Levels = []api.Level{{W: 2, H: 1, Bytes: []byte{255}}}
	return []api.Image{x, short, {}}
}

// P19.3: of a discard comes that alone.
func TestDiscard(t *testing.T) {
	p := linked(t, "varying float q;"+end, "varying float q;uniform float u;void main(){gl_FragColor=vec4(1.0);if(q>u)discard;gl_FragColor.y=q;}")
	fragmentRun(t, p, api.Env{Varyings: []api.Vec{numbers(3)}, Uniforms: []api.Vec{numbers(2)}}, api.Result{Discard: true})
	fragmentRun(t, p, api.Env{Varyings: []api.Vec{numbers(2)}, Uniforms: []api.Vec{numbers(2)}}, api.Result{Color: numbers(1, 2, 1, 1)})
	fragmentRun(t, p, api.Env{Varyings: []api.Vec{numbers(2)}, Uniforms: []api.Vec{numbers(1)}}, api.Result{Discard: true})
}

// P19.3: a run does not hang on what was run ahead of it.
func TestRunAgain(t *testing.T) {
	p := linked(t, "float n=1.0;uniform float u;varying float q;void main(){n+=u;q=n;}", "float n=1.0;varying float q;void main(){n+=q;gl_FragColor=vec4(n);}")
	for range 3 {
		for k := range 4 {
			x := api.Fix(k) * one
			vertexRun(t, p, api.Env{Uniforms: []api.Vec{{x}}}, api.Result{Varyings: []api.Vec{{x + one}}})
			fragmentRun(t, p, api.Env{Varyings: []api.Vec{{x}}, Uniforms: plain(1)}, api.Result{Color: api.Vec{x + one, x + one, x + one, x + one}})
		}
	}
}

// P19.3: of a program that Link did not tell all ends, and beside an error nothing is told.
func TestOtherPrograms(t *testing.T) {
	p := linked(t, "attribute vec2 a;uniform float u;uniform vec2 w;varying float q;varying vec2 r;void main(){gl_Position=vec4(a,w);q=u;r=a;}", "uniform float x,u;varying vec2 r;varying float q;void main(){if(u>x)discard;gl_FragColor=vec4(q,r,x);}")
	ends := func(p api.Program) {
		t.Helper()
		for _, e := range []api.Env{{}, {Attribs: plain(1), Uniforms: plain(3)}, {Varyings: plain(2), Uniforms: plain(3)}, {Attribs: plain(len(p.Attribs)), Uniforms: plain(len(p.Uniforms))}, {Varyings: plain(len(p.Varyings)), Uniforms: plain(len(p.Uniforms))}, {Attribs: plain(9), Uniforms: plain(40), Varyings: plain(9), Images: pictures()}} {
			for _, run := range []func(api.Program, api.Env) (api.Result, api.Errno){prog.RunVertex, prog.RunFragment} {
				if x, err := run(p, e); err != api.OK && !vm.Same(x, api.Result{}) {
					t.Fatalf("%v: %v, %d", e, x, err)
				}
			}
		}
	}
	ends(api.Program{})
	for _, spoil := range spoiling(p.Vertex) {
		x := copiedProgram(p)
		spoil(&x.Vertex)
		ends(x)
	}
	for _, spoil := range spoiling(p.Fragment) {
		x := copiedProgram(p)
		spoil(&x.Fragment)
		ends(x)
	}
	for _, spoil := range changes(p) {
		x := copiedProgram(p)
		spoil(&x)
		ends(x)
	}
	turned := copiedProgram(p)
	turned.Vertex, turned.Fragment = turned.Fragment, turned.Vertex
	ends(turned)
	untyped := copiedProgram(p)
	untyped.Vertex.Checked.Types, untyped.Fragment.Checked.Types = nil, nil
	ends(untyped)
	// Codes that may be, and that make fewer varyings, or more, than the shader has.
	for n := range api.MaxVaryings + 1 {
		other := copiedProgram(p)
		other.Vertex.Code = api.Code{Stage: vertex, Attribs: 1, Uniforms: 2, Varyings: n}
		ends(other)
	}
	ends(api.Program{Attribs: make([]api.Slot, 9), Uniforms: make([]api.Slot, 40), Varyings: make([]api.Slot, 9)})
	ends(api.Program{Vertex: p.Vertex, Fragment: p.Fragment})
	p.Vertex.Checked.Uniforms = []int{-1, 1 << 40}
	p.Uniforms = make([]api.Slot, 3)
	p.Varyings = make([]api.Slot, 2)
	ends(p)
}
