package gen_test

import (
	"fmt"
	"strings"
	"testing"

	"paintbox/api"
)

// marked is a vector of which no number is 0 or alike another one.
func marked() api.Vec { return numbers(2, -3, 4.5, 5) }

// P17.1: uniforms of every type: as many numbers as the size, of a bool 1 where they are not 0; the others play no part.
func TestUniforms(t *testing.T) {
	for _, r := range []struct {
		kind, tell string
		in, want   api.Vec
	}{
		{"float", "vec4(u,0,0,0)", marked(), numbers(2)},
		{"vec2", "vec4(u,0,0)", marked(), numbers(2, -3)},
		{"vec3", "vec4(u,0)", marked(), numbers(2, -3, 4.5)},
		{"vec4", "u", marked(), marked()},
		{"int", "vec4(u,0,0,0)", api.Vec{7, 8, 9, 10}, numbers(7)},
		{"ivec2", "vec4(u,0,0)", api.Vec{7, -8, 9, 10}, numbers(7, -8)},
		{"ivec3", "vec4(u,0)", api.Vec{7, -8, 9, 10}, numbers(7, -8, 9)},
		{"ivec4", "vec4(u)", api.Vec{7, -8, 9, 65536}, api.Vec{7 * one, -8 * one, 9 * one, api.Most}},
		{"bool", "vec4(u,!u,u==true,0)", api.Vec{2, 3, 4, 5}, numbers(1, 0, 1)},
		{"bool", "vec4(u,!u,u==true,0)", api.Vec{-1, 3, 4, 5}, numbers(1, 0, 1)},
		{"bool", "vec4(u,!u,u==true,0)", api.Vec{1, 0, 0, 0}, numbers(1, 0, 1)},
		{"bool", "vec4(u,!u,u==true,0)", api.Vec{0, 3, 4, 5}, numbers(0, 1, 0)},
		{"bool", "vec4(int(u),u!=false,u||u,u&&u)", api.Vec{65536, 3, 4, 5}, numbers(1, 1, 1, 1)},
		{"bvec2", "vec4(u,u==bvec2(true),u.x==u.y)", api.Vec{7, -8, 9, 10}, numbers(1, 1, 1, 1)},
		{"bvec3", "vec4(u,u==bvec3(1,0,1))", api.Vec{65536, 0, api.Least, 10}, numbers(1, 0, 1, 1)},
		{"bvec4", "vec4(ivec4(u))", api.Vec{api.Most, 0, 2, -1}, numbers(1, 0, 1, 1)},
	} {
		for stage, out := range map[int]string{vertex: "gl_Position", fragment: "gl_FragColor"} {
			want := api.Result{Color: r.want}
			if stage == vertex {
				want = api.Result{Position: r.want}
			}
			e := api.Env{Uniforms: []api.Vec{r.in}}
			comes(t, stage, "uniform "+r.kind+" u;void main(){"+out+"="+r.tell+";}", e, want)
			comes(t, stage, "uniform "+r.kind+" u;vec4 f("+r.kind+" u){return "+r.tell+";}void main(){"+out+"=f(u);}", e, want)
			comes(t, stage, "uniform "+r.kind+" w;void main(){"+r.kind+" u=w;"+out+"="+r.tell+";}", e, want)
		}
	}
	// What is a bool in an if, a condition and beside && counts as 1.
	paints(t, "uniform bvec2 u;void main(){if(u.x)gl_FragColor.x=1.0;gl_FragColor.y=u.x?1.0:2.0;gl_FragColor.z=float(u.x&&true);gl_FragColor.w=float(u.x||false);}", api.Env{Uniforms: []api.Vec{{5, 6}}}, numbers(1, 1, 1, 1))
}

// P17.1: attributes of the vertex stage and varyings of the fragment stage: as many numbers as the size.
func TestHanded(t *testing.T) {
	for kind, r := range map[string]struct {
		tell string
		want api.Vec
	}{
		"float": {"vec4(a,0,0,0)", numbers(2)}, "vec2": {"vec4(a,0,0)", numbers(2, -3)}, "vec3": {"vec4(a,0)", numbers(2, -3, 4.5)}, "vec4": {"a", marked()},
	} {
		comes(t, vertex, "attribute "+kind+" a;void main(){gl_Position="+r.tell+";}", api.Env{Attribs: []api.Vec{marked()}}, api.Result{Position: r.want})
		paints(t, "varying "+kind+" a;void main(){gl_FragColor="+r.tell+";}", api.Env{Varyings: []api.Vec{marked()}}, r.want)
		comes(t, vertex, "attribute "+kind+" a;varying "+kind+" v,w;void main(){v=a;w=v+a;}", api.Env{Attribs: []api.Vec{marked()}}, api.Result{Varyings: []api.Vec{r.want, {2 * r.want[0], 2 * r.want[1], 2 * r.want[2], 2 * r.want[3]}}})
		comes(t, vertex, "uniform "+kind+" a;varying "+kind+" v;void main(){v=a;}", api.Env{Uniforms: []api.Vec{marked()}}, api.Result{Varyings: []api.Vec{r.want}})
		comes(t, vertex, "attribute "+kind+" a;void main(){bool b=a==a;gl_PointSize=float(b);}", api.Env{Attribs: []api.Vec{marked()}}, api.Result{Size: one})
	}
}

// P17.1: lists stand in the order of their declarations, one by one, whatever stands between them.
func TestOrderOfLists(t *testing.T) {
	l := []api.Vec{numbers(1, 10), numbers(2, 20), numbers(3, 30), numbers(4, 40)}
	comes(t, vertex, "attribute float d;uniform vec2 h;varying vec2 z;attribute vec2 b,a;varying float y;uniform float g;attribute float c;varying vec3 x;void main(){x.z=9.0;y=g;z=h;gl_Position=vec4(d,b.y,a.y,c);}", api.Env{Attribs: l, Uniforms: l[2:]}, api.Result{Position: numbers(1, 20, 30, 4), Varyings: []api.Vec{numbers(3, 30), numbers(4), numbers(0, 0, 9)}})
	paints(t, "varying float d;uniform float h;varying vec2 b,a;uniform vec2 g;void main(){gl_FragColor=vec4(d,b.y,a.y,h+g.y);}", api.Env{Varyings: l[:3], Uniforms: l[1:3]}, numbers(1, 20, 30, 32))
	paints(t, "uniform float b;float x=5.0;uniform float a;void f(){float q;}uniform float c,d;void main(){gl_FragColor=vec4(a,b,c,d);}", api.Env{Uniforms: l}, numbers(2, 1, 3, 4))
	paints(t, "uniform float b;void main(){gl_FragColor=vec4(b);}uniform float a;", api.Env{Uniforms: l[:2]}, numbers(1, 1, 1, 1))
}

// P17.1: the most that there may be of each list, each of them read; and of those that are declared and not read there are as many.
func TestMost(t *testing.T) {
	names := func(letter string, n int) string {
		var l []string
		for i := range n {
			l = append(l, fmt.Sprint(letter, i))
		}
		return strings.Join(l, ",")
	}
	list := func(n int) []api.Vec {
		var l []api.Vec
		for i := range n {
			l = append(l, numbers(float64(i+1), 0.5))
		}
		return l
	}
	ahead := "uniform vec2 " + names("u", api.MaxUniforms) + ";varying vec4 " + names("v", api.MaxVaryings) + ";"
	attribs := "attribute vec2 " + names("a", api.MaxAttribs) + ";"
	for i := range api.MaxUniforms {
		u := fmt.Sprint("u", i, ".x")
		paints(t, ahead+"void main(){gl_FragColor.x="+u+";}", api.Env{Uniforms: list(api.MaxUniforms), Varyings: list(api.MaxVaryings)}, numbers(float64(i+1)))
		comes(t, vertex, attribs+ahead+"void main(){gl_PointSize="+u+";}", api.Env{Uniforms: list(api.MaxUniforms), Attribs: list(api.MaxAttribs)}, api.Result{Size: api.Fix(i+1) * one, Varyings: make([]api.Vec, api.MaxVaryings)})
	}
	for i := range api.MaxAttribs {
		comes(t, vertex, attribs+ahead+fmt.Sprintf("void main(){gl_PointSize=a%d.x+a%d.y;}", i, i), api.Env{Uniforms: list(api.MaxUniforms), Attribs: list(api.MaxAttribs)}, api.Result{Size: api.Fix(i+1)*one + one/2, Varyings: make([]api.Vec, api.MaxVaryings)})
	}
	for i := range api.MaxVaryings {
		paints(t, ahead+fmt.Sprintf("void main(){gl_FragColor=v%d;}", i), api.Env{Uniforms: list(api.MaxUniforms), Varyings: list(api.MaxVaryings)}, numbers(float64(i+1), 0.5))
		want := make([]api.Vec, api.MaxVaryings)
		want[i] = numbers(0, 0, 7)
		comes(t, vertex, ahead+fmt.Sprintf("void main(){v%d.z=7.0;}", i), api.Env{Uniforms: list(api.MaxUniforms)}, api.Result{Varyings: want})
	}
}

// P17.1: the built-in variables of the fragment stage.
func TestBuiltinFragment(t *testing.T) {
	e := api.Env{Coord: marked(), Front: true, Point: numbers(7, 8, 9, 10)}
	paints(t, "void main(){gl_FragColor=gl_FragCoord;}", e, marked())
	paints(t, "void main(){gl_FragColor=vec4(gl_PointCoord,gl_PointCoord==vec2(7.0,8.0),gl_FrontFacing);}", e, numbers(7, 8, 1, 1))
	paints(t, "void main(){if(gl_FrontFacing==true)gl_FragColor=vec4(2.0);else discard;}", e, numbers(2, 2, 2, 2))
	e.Front = false
	paints(t, "void main(){gl_FragColor=vec4(gl_FrontFacing,!gl_FrontFacing,0,0);}", e, numbers(0, 1))
	comes(t, fragment, "void main(){if(gl_FrontFacing)gl_FragColor=vec4(2.0);else discard;}", e, api.Result{Discard: true})
	paints(t, "vec4 f(){return gl_FragCoord*2.0;}void main(){gl_FragColor=f().wzyx;}", e, numbers(10, 9, -6, 4))
	paints(t, "void main(){vec4 a=gl_FragColor;gl_FragColor=vec4(1.0);gl_FragColor+=gl_FragColor+a;}", e, numbers(2, 2, 2, 2))
	paints(t, "void main(){}", e, api.Vec{})
	paints(t, "void main(){gl_FragColor;}", e, api.Vec{})
	paints(t, "void f(){gl_FragColor.y=3.0;}void main(){gl_FragColor.x=1.0;f();}", e, numbers(1, 3))
	paints(t, "void f(){gl_FragColor.y=3.0;}void main(){}", e, api.Vec{})
	paints(t, "void main(){vec4 gl=gl_FragCoord;gl.x=9.0;gl_FragColor=gl_FragCoord;}", e, marked())
	paints(t, "void main(){if(gl_FragCoord.x<3.0){gl_FragColor=gl_FragCoord.xyxy;return;}gl_FragColor=gl_FragCoord.zwzw;}", e, numbers(2, -3, 2, -3))
}

// P17.1: the built-in variables of the vertex stage, and varyings that hold noughts till they are written.
func TestBuiltinVertex(t *testing.T) {
	e := api.Env{Coord: marked(), Front: true, Point: marked()}
	comes(t, vertex, "void main(){}", e, api.Result{})
	comes(t, vertex, "void main(){gl_Position=vec4(1.0,2.0,3.0,4.0);gl_PointSize=5.0;}", e, api.Result{Position: numbers(1, 2, 3, 4), Size: 5 * one})
	comes(t, vertex, "void main(){gl_PointSize=5.0;}", e, api.Result{Size: 5 * one})
	comes(t, vertex, "void main(){gl_Position.zw=vec2(3.0,4.0);gl_PointSize+=gl_Position.z;gl_PointSize*=gl_PointSize;}", e, api.Result{Position: numbers(0, 0, 3, 4), Size: 9 * one})
	comes(t, vertex, "varying vec2 v;varying float w;void main(){w+=1.0;v.y=w;}", e, api.Result{Varyings: []api.Vec{numbers(0, 1), numbers(1)}})
	comes(t, vertex, "varying vec4 v;varying vec3 w;void main(){v=v+w.xyzz;}", e, api.Result{Varyings: make([]api.Vec, 2)})
	comes(t, vertex, "varying vec4 v,w;void main(){}", e, api.Result{Varyings: make([]api.Vec, 2)})
	comes(t, vertex, "void f(){gl_Position.x+=1.0;}void main(){f();f();return;f();}", e, api.Result{Position: numbers(2)})
	comes(t, vertex, "varying float v;void f(float v){v=9.0;}void main(){f(1.0);float a=v;{float v=3.0;}v+=2.0;}", e, api.Result{Varyings: []api.Vec{numbers(2)}})
	comes(t, vertex, "varying float v;void main(){v=1.0;gl_Position=vec4(7.0);}", e, api.Result{Position: numbers(7, 7, 7, 7), Varyings: []api.Vec{numbers(1)}})
	comes(t, vertex, "varying float v,w;void main(){v=1.0;gl_PointSize=2.0;if(v>0.5)return;w=1.0;gl_PointSize=3.0;}", e, api.Result{Size: 2 * one, Varyings: []api.Vec{numbers(1), {}}})
	comes(t, vertex, "const vec4 k=vec4(9.0)*vec4(2.0);varying vec4 v;varying float w;void main(){}", e, api.Result{Varyings: make([]api.Vec, 2)})
	comes(t, vertex, "vec4 a=vec4(9.0);void f(vec4 b){a=b;}varying vec4 v,w;void main(){f(a+a);w.x=a.y;}", e, api.Result{Varyings: []api.Vec{{}, numbers(18)}})
}

// P17.1: a run leaves the surroundings as they are: what is handed in is read as often as it is named, the same each time.
func TestReadOften(t *testing.T) {
	e := api.Env{Uniforms: []api.Vec{marked(), {9, 9, 9, 9}}, Varyings: []api.Vec{marked()}, Coord: marked(), Front: true, Point: marked()}
	paints(t, "uniform vec2 u;uniform bool b;varying vec3 v;vec4 f(vec2 u,vec3 v,bool b){u=u.yx;v.z=u.x;b=!b;return vec4(u,v.z,b);}void main(){gl_FragColor=f(u,v,b)+f(v.xy,v,b)+vec4(u,v.y,b);}", e, numbers(-4, 1, -9, 1))
	paints(t, "uniform vec2 u;uniform bool b;varying vec3 v;void main(){for(int i=0;i<3;i++){vec2 u=u;u.x+=float(i);gl_FragColor.x+=u.x;if(b)gl_FragColor.y+=v.y;}gl_FragColor.zw=u;}", e, numbers(9, -9, 2, -3))
}
