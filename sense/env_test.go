package sense_test

import (
	"slices"
	"testing"

	"paintbox/api"
	"paintbox/sense"
)

// marked is a vector of which no number is 0 or alike another one.
func marked() api.Vec { return numbers(2, -3, 4.5, 5) }

// P15.3: uniforms of every type: as many numbers as the size, of a bool 1 where they are not 0; the others play no part.
func TestUniforms(t *testing.T) {
	for _, r := range []struct {
		kind, tell string
		in, want   api.Vec
	}{
		{"float", "vec4(u,0,0,0)", marked(), numbers(2)},
		{"vec2", "vec4(u,0,0)", marked(), numbers(2, -3)},
		{"vec3", "vec4(u,0)", marked(), numbers(2, -3, 4.5)},
		{"vec4", "u", marked(), marked()},
		{"int", "vec4(u,0,0,0)", api.Vec{7, 8, 9, 10}, numbers(7)},
		{"ivec2", "vec4(u,0,0)", api.Vec{7, -8, 9, 10}, numbers(7, -8)},
		{"ivec3", "vec4(u,0)", api.Vec{7, -8, 9, 10}, numbers(7, -8, 9)},
		{"ivec4", "vec4(u)", api.Vec{7, -8, 9, 65536}, api.Vec{7 * one, -8 * one, 9 * one, api.Most}},
		{"bool", "vec4(u,!u,u==true,0)", api.Vec{2, 3, 4, 5}, numbers(1, 0, 1)},
		{"bool", "vec4(u,!u,u==true,0)", api.Vec{-1, 3, 4, 5}, numbers(1, 0, 1)},
		{"bool", "vec4(u,!u,u==true,0)", api.Vec{1, 0, 0, 0}, numbers(1, 0, 1)},
		{"bool", "vec4(u,!u,u==true,0)", api.Vec{0, 3, 4, 5}, numbers(0, 1, 0)},
		{"bvec2", "vec4(u,u==bvec2(true),u.x==u.y)", api.Vec{7, -8, 9, 10}, numbers(1, 1, 1, 1)},
		{"bvec3", "vec4(u,u==bvec3(1,0,1))", api.Vec{65536, 0, api.Least, 10}, numbers(1, 0, 1, 1)},
		{"bvec4", "vec4(ivec4(u))", api.Vec{api.Most, 0, 2, -1}, numbers(1, 0, 1, 1)},
	} {
		for _, stage := range []int{vertex, fragment} {
			out, want := "gl_FragColor", api.Result{Color: r.want}
			if stage == vertex {
				out, want = "gl_Position", api.Result{Position: r.want}
			}
			comes(t, stage, "uniform "+r.kind+" u;void main(){"+out+"="+r.tell+";}", api.Env{Uniforms: []api.Vec{r.in}}, want)
		}
	}
	// What is a bool in an if, a condition and beside && counts as 1.
	paints(t, "uniform bvec2 u;void main(){if(u.x)gl_FragColor.x=1.0;gl_FragColor.y=u.x?1.0:2.0;gl_FragColor.z=float(u.x&&true);gl_FragColor.w=float(u.x||false);}", api.Env{Uniforms: []api.Vec{{5, 6}}}, numbers(1, 1, 1, 1))
}

// P15.3: attributes of the vertex stage and varyings of the fragment stage: as many numbers as the size.
func TestHanded(t *testing.T) {
	for kind, r := range map[string]struct {
		tell string
		want api.Vec
	}{
		"float": {"vec4(a,0,0,0)", numbers(2)}, "vec2": {"vec4(a,0,0)", numbers(2, -3)}, "vec3": {"vec4(a,0)", numbers(2, -3, 4.5)}, "vec4": {"a", marked()},
	} {
		comes(t, vertex, "attribute "+kind+" a;void main(){gl_Position="+r.tell+";}", api.Env{Attribs: []api.Vec{marked()}}, api.Result{Position: r.want})
		paints(t, "varying "+kind+" a;void main(){gl_FragColor="+r.tell+";}", api.Env{Varyings: []api.Vec{marked()}}, r.want)
		comes(t, vertex, "attribute "+kind+" a;varying "+kind+" v,w;void main(){v=a;w=v+a;}", api.Env{Attribs: []api.Vec{marked()}}, api.Result{Varyings: []api.Vec{r.want, {2 * r.want[0], 2 * r.want[1], 2 * r.want[2], 2 * r.want[3]}}})
		comes(t, vertex, "attribute "+kind+" a;void main(){bool b=a==a;gl_PointSize=float(b);}", api.Env{Attribs: []api.Vec{marked()}}, api.Result{Size: one})
	}
}

// P15.3: lists stand in the order of their declarations, one by one, whatever stands between them.
func TestOrderOfLists(t *testing.T) {
	l := []api.Vec{numbers(1, 10), numbers(2, 20), numbers(3, 30), numbers(4, 40)}
	comes(t, vertex, "attribute float d;uniform vec2 h;varying vec2 z;attribute vec2 b,a;varying float y;uniform float g;attribute float c;varying vec3 x;void main(){x.z=9.0;y=g;z=h;gl_Position=vec4(d,b.y,a.y,c);}", api.Env{Attribs: l, Uniforms: l[2:]}, api.Result{Position: numbers(1, 20, 30, 4), Varyings: []api.Vec{numbers(3, 30), numbers(4), numbers(0, 0, 9)}})
	paints(t, "varying float d;uniform float h;varying vec2 b,a;uniform vec2 g;void main(){gl_FragColor=vec4(d,b.y,a.y,h+g.y);}", api.Env{Varyings: l[:3], Uniforms: l[1:3]}, numbers(1, 20, 30, 32))
	paints(t, "uniform float b;float x=5.0;uniform float a;void f(){float q;}uniform float c,d;void main(){gl_FragColor=vec4(a,b,c,d);}", api.Env{Uniforms: l}, numbers(2, 1, 3, 4))
	paints(t, "uniform float b;void main(){gl_FragColor=vec4(b);}uniform float a;", api.Env{Uniforms: l[:2]}, numbers(1, 1, 1, 1))
}

// P15.3: the built-in variables of the fragment stage.
func TestBuiltinFragment(t *testing.T) {
	e := api.Env{Coord: marked(), Front: true, Point: numbers(7, 8, 9, 10)}
	paints(t, "void main(){gl_FragColor=gl_FragCoord;}", e, marked())
	paints(t, "void main(){gl_FragColor=vec4(gl_PointCoord,gl_PointCoord==vec2(7.0,8.0),gl_FrontFacing);}", e, numbers(7, 8, 1, 1))
	paints(t, "void main(){if(gl_FrontFacing==true)gl_FragColor=vec4(2.0);else discard;}", e, numbers(2, 2, 2, 2))
	e.Front = false
	paints(t, "void main(){gl_FragColor=vec4(gl_FrontFacing,!gl_FrontFacing,0,0);}", e, numbers(0, 1))
	paints(t, "vec4 f(){return gl_FragCoord*2.0;}void main(){gl_FragColor=f().wzyx;}", e, numbers(10, 9, -6, 4))
	paints(t, "void main(){vec4 a=gl_FragColor;gl_FragColor=vec4(1.0);gl_FragColor+=gl_FragColor+a;}", e, numbers(2, 2, 2, 2))
	paints(t, "void main(){}", e, api.Vec{})
	paints(t, "void f(){gl_FragColor.y=3.0;}void main(){gl_FragColor.x=1.0;f();}", e, numbers(1, 3))
	paints(t, "void main(){vec4 gl=gl_FragCoord;gl.x=9.0;gl_FragColor=gl_FragCoord;}", e, marked())
}

// P15.3: the built-in variables of the vertex stage, and varyings that hold noughts till they are written.
func TestBuiltinVertex(t *testing.T) {
	e := api.Env{Coord: marked(), Front: true, Point: marked()}
	comes(t, vertex, "void main(){}", e, api.Result{})
	comes(t, vertex, "void main(){gl_Position=vec4(1.0,2.0,3.0,4.0);gl_PointSize=5.0;}", e, api.Result{Position: numbers(1, 2, 3, 4), Size: 5 * one})
	comes(t, vertex, "void main(){gl_Position.zw=vec2(3.0,4.0);gl_PointSize+=gl_Position.z;gl_PointSize*=gl_PointSize;}", e, api.Result{Position: numbers(0, 0, 3, 4), Size: 9 * one})
	comes(t, vertex, "varying vec2 v;varying float w;void main(){w+=1.0;v.y=w;}", e, api.Result{Varyings: []api.Vec{numbers(0, 1), numbers(1)}})
	comes(t, vertex, "varying vec4 v;varying vec3 w;void main(){v=v+w.xyzz;}", e, api.Result{Varyings: make([]api.Vec, 2)})
	comes(t, vertex, "void f(){gl_Position.x+=1.0;}void main(){f();f();return;f();}", e, api.Result{Position: numbers(2)})
	comes(t, vertex, "varying float v;void f(float v){v=9.0;}void main(){f(1.0);float a=v;{float v=3.0;}v+=2.0;}", e, api.Result{Varyings: []api.Vec{numbers(2)}})
	comes(t, vertex, "varying float v;void main(){v=1.0;gl_Position=vec4(7.0);}", e, api.Result{Position: numbers(7, 7, 7, 7), Varyings: []api.Vec{numbers(1)}})
}

// P15.4: numbers beyond a type's size, images that no sampler says, and what a stage does not know play no part.
func TestNoPart(t *testing.T) {
	for seed := range 500 {
		w := &writer{chance: chance(seed), stage: 1 + seed%2}
		c := shader(t, w.stage, w.shader())
		e := w.env(c)
		want, err := sense.Run(c, e)
		if err == api.ErrLong {
			continue
		}
		f := api.Env{Coord: e.Coord, Front: e.Front, Point: api.Vec{e.Point[0], e.Point[1], w.raw(), w.raw()}, Images: slices.Clone(e.Images)}
		if w.stage == vertex {
			f.Coord, f.Front, f.Point = w.vector(), !e.Front, w.vector()
		}
		other := func(variables []int, l []api.Vec) []api.Vec {
			var m []api.Vec
			for i, v := range l {
				kind := c.Types[variables[i]]
				x := w.vector()
				copy(x[:kind.Size], v[:kind.Size])
				for k := range x[:kind.Size] {
					if kind.Base == api.BaseBool && v[k] != 0 {
						x[k] = api.Fix(1 + w.below(1<<30))
					}
				}
				m = append(m, x)
			}
			return m
		}
		f.Attribs, f.Uniforms, f.Varyings = other(c.Attribs, e.Attribs), other(c.Uniforms, e.Uniforms), other(c.Varyings, e.Varyings)
		said := func(image int) bool {
			return slices.ContainsFunc(c.Uniforms, func(u int) bool {
				return c.Types[u].Base == api.BaseSampler && e.Uniforms[slices.Index(c.Uniforms, u)][0] == api.Fix(image)
			})
		}
		for image := range f.Images {
			if !said(image) {
				f.Images[image] = api.Image{Format: 99}
			}
		}
		if !said(len(f.Images)) {
			f.Images = append(f.Images, pictures()[0])
		}
		if x, err := sense.Run(c, f); err != api.OK || !alike(x, want) {
			t.Fatalf("%v, %d; want %v", x, err, want)
		}
	}
}
