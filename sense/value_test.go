package sense_test

import (
	"fmt"
	"math"
	"strings"
	"testing"

	"paintbox/api"
	"paintbox/sense"
)

// last answers the number of the whole value of the NodeVar that stands last.
func last(c api.Checked) int {
	at := 0
	for _, n := range c.Tree.Nodes {
		if n.Kind == api.NodeVar && len(n.Kids) == 1 {
			at = n.Kids[0]
		}
	}
	return at
}

// raws answers the vector of these raws.
func raws(l ...api.Fix) api.Vec {
	var v api.Vec
	copy(v[:], l)
	return v
}

// valued asks whether a constant expression has this value, in both stages.
func valued(t *testing.T, kind, expr string, want api.Vec) {
	t.Helper()
	const ahead = "const float k=0.5,h=k+k;const vec4 w=vec4(1.0,2.0,3.0,4.0);const ivec3 j=ivec3(7,-7,2);const bvec2 y=bvec2(true,false);"
	for _, stage := range []int{vertex, fragment} {
		c := shader(t, stage, ahead+"void main(){"+kind+" a="+expr+";}")
		if v, err := sense.Value(c, last(c)); v != want || err != api.OK {
			t.Errorf("%s: %v, %d; want %v", expr, v, err, want)
		}
	}
}

// P15.2: Value of every kind of constant expression.
func TestValue(t *testing.T) {
	for _, r := range []struct {
		kind, expr string
		want       api.Vec
	}{
		{"int", "7", raws(7)}, {"int", "0", raws(0)}, {"int", "32767", raws(32767)}, {"float", "1.5", numbers(1.5)}, {"float", "32767.0", numbers(32767)}, {"bool", "true", raws(1)}, {"bool", "false", raws(0)},
		{"float", "k", numbers(0.5)}, {"float", "h", numbers(1)}, {"vec4", "w", numbers(1, 2, 3, 4)}, {"ivec3", "j", raws(7, -7, 2)}, {"bvec2", "y", raws(1, 0)},
		{"float", "-k", numbers(-0.5)}, {"int", "-7", raws(-7)}, {"vec4", "-w", numbers(-1, -2, -3, -4)}, {"bool", "!true", raws(0)}, {"bool", "!y.y", raws(1)},
		{"float", "1.0+2.0", numbers(3)}, {"float", "1.0-2.0", numbers(-1)}, {"float", "1.5*2.0", numbers(3)}, {"float", "1.0/2.0", numbers(0.5)}, {"float", "1.0/0.0", raws(api.Most)}, {"float", "32767.0+1.0", raws(api.Most)},
		{"int", "7/2", raws(3)}, {"int", "-7/2", raws(-3)}, {"int", "7/0", raws(0)}, {"int", "32767*32767*4", raws(-262140)}, {"vec4", "w*2.0", numbers(2, 4, 6, 8)}, {"vec4", "2.0-w", numbers(1, 0, -1, -2)}, {"ivec3", "j/2", raws(3, -3, 1)}, {"ivec3", "14/j", raws(2, -2, 7)},
		{"bool", "1<2", raws(1)}, {"bool", "2.0<1.0", raws(0)}, {"bool", "k>=0.5", raws(1)}, {"bool", "w==w", raws(1)}, {"bool", "w!=w.xyzz", raws(1)}, {"bool", "y==y.yx", raws(0)}, {"bool", "true&&false", raws(0)}, {"bool", "true&&true", raws(1)}, {"bool", "false||true", raws(1)}, {"bool", "false||false", raws(0)},
		{"float", "true?1.0:2.0", numbers(1)}, {"float", "y.y?1.0:2.0", numbers(2)}, {"vec4", "k<h?w:w.wzyx", numbers(1, 2, 3, 4)},
		{"float", "w.z", numbers(3)}, {"vec2", "w.wx", numbers(4, 1)}, {"vec3", "w.rrb", numbers(1, 1, 3)}, {"vec2", "w.wzyx.xy", numbers(4, 3)}, {"int", "j.y", raws(-7)}, {"bool", "y.s", raws(1)},
		{"float", "abs(-2.0)", numbers(2)}, {"vec4", "min(w,2.5)", numbers(1, 2, 2.5, 2.5)}, {"float", "dot(w,w)", numbers(30)}, {"float", "length(vec2(3.0,4.0))", numbers(5)}, {"vec3", "cross(vec3(1.0,0.0,0.0),vec3(0.0,1.0,0.0))", numbers(0, 0, 1)},
		{"vec3", "vec3(k)", numbers(0.5, 0.5, 0.5)}, {"vec3", "vec3(w)", numbers(1, 2, 3)}, {"ivec2", "ivec2(-1.5,true)", raws(-1, 1)}, {"bvec3", "bvec3(0.25,0,j)", raws(1, 0, 1)}, {"float", "float(j)", numbers(7)}, {"int", "int(w.zyx)", raws(3)},
	} {
		valued(t, r.kind, r.expr, r.want)
	}
}

// P15.2: Value of each node of a shader: those that are no constant expressions answer ErrArg.
func TestValueOfNodes(t *testing.T) {
	c := shader(t, fragment, "uniform sampler2D s;const int k=2;float g(vec2 a,bool b){return b?a.x:-1.5;}void main(){for(int i=-1;i<3;i++){int i=i+k;}if(gl_FrontFacing&&true)discard;else;vec4 c=texture2D(s,gl_PointCoord);c.x+=g(c.xy,false);gl_FragColor=vec4(gl_FragCoord.xy,c);return;}")
	want := map[int]api.Fix{5: 2, 15: -98304, 16: 98304, 20: -1, 21: 3, 27: 2, 31: 1, 46: 0}
	for node, n := range c.Tree.Nodes {
		v, err := sense.Value(c, node)
		x, is := want[node]
		if is && (v != api.Vec{x} || err != api.OK) || !is && (v != api.Vec{} || err != api.ErrArg) {
			t.Errorf("node %d of kind %d: %v, %d", node, n.Kind, v, err)
		}
	}
	for _, node := range []int{-1, -2, -7, len(c.Tree.Nodes), len(c.Tree.Nodes) + 1, 1<<32 + 5, -1<<32 + 5, math.MaxInt, math.MinInt} {
		if v, err := sense.Value(c, node); v != (api.Vec{}) || err != api.ErrArg {
			t.Errorf("node %d: %v, %d", node, v, err)
		}
	}
}

// P15.2: expressions that are no constant ones, but have such among them.
func TestValueOfOthers(t *testing.T) {
	for _, expr := range []string{"m", "u", "v", "-m", "m+1.0", "1.0+m", "f()", "abs(u)", "f()+1.0", "vec2(1.0,u).x", "(m=1.0)", "(m+=1.0)", "true?1.0:m", "false?u:1.0", "texture2D(s,vec2(0.0)).x", "vec4(1.0,2.0,3.0,m).x", "float(i)", "p"} {
		for _, stage := range []int{vertex, fragment} {
			c := shader(t, stage, "uniform float u;varying float v;uniform sampler2D s;float m=1.0;float f(){return 1.0;}void g(float p){for(int i=0;i<1;i++){float a="+expr+";}}void main(){}")
			if v, err := sense.Value(c, last(c)); v != (api.Vec{}) || err != api.ErrArg {
				t.Errorf("%s: %v, %d", expr, v, err)
			}
		}
	}
}

// P15.2: constants wherever they stand: in functions that are not called, behind a discard, in loops with no round, hidden by others, and of the cost beyond the bound.
func TestValueOfConstants(t *testing.T) {
	c := shader(t, fragment, "const int k=1;int g(int k){return k;}void f(){const int k=k+1;{const int k=k*10;int a=k;}int b=k;}void main(){discard;for(int i=0;i<0;i++){const int k=5;int d=k+k;}for(int i=0;i<64;i++)for(int k=0;k<64;k++)for(int m=0;m<64;m++);int e=k;}const int z=k+6;int y=z;")
	want := map[string]api.Fix{"a": 20, "b": 2, "d": 10, "e": 1, "y": 7, "z": 7}
	for _, n := range c.Tree.Nodes {
		if x, is := want[n.Text]; is && n.Kind == api.NodeVar {
			if v, err := sense.Value(c, n.Kids[0]); v != (api.Vec{x}) || err != api.OK {
				t.Errorf("%s: %v, %d", n.Text, v, err)
			}
			delete(want, n.Text)
		}
	}
	if len(want) > 0 {
		t.Error(want)
	}
}

// P15.2: constants of which each asks twice for the one ahead of it.
func TestValueOfChain(t *testing.T) {
	text := "const int c0=1;"
	for i := range 200 {
		text += fmt.Sprintf("const int c%d=c%d+c%d;", i+1, i, i)
	}
	c := shader(t, vertex, text+"void main(){}")
	doubling := api.Fix(1)
	for i, n := range c.Tree.Nodes {
		if n.Kind == api.NodeVar {
			if v, err := sense.Value(c, i+1); v != (api.Vec{doubling}) || err != api.OK {
				t.Fatalf("%s: %v, %d", n.Text, v, err)
			}
			doubling *= 2
		}
	}
	comes(t, vertex, text+"void main(){gl_PointSize=float(c14);}", api.Env{}, api.Result{Size: 16384 * one})
}

// whole answers an expression of a vec4 that tells a number to the last bit: of an int what is above 2^16, above 2^2, and the rest.
func whole(base, name string) string {
	if base != "int" {
		return "vec4(float(" + name + "))"
	}
	return strings.ReplaceAll("vec4(float(#/(256*256)),float((#-#/(256*256)*(256*256))/4),float(#-#/4*4),0.0)", "#", name)
}

// read answers the raw of the number that such a colour tells.
func read(base string, colour api.Vec) api.Fix {
	switch base {
	case "int":
		return colour[0]>>16<<16 + colour[1]>>16<<2 + colour[2]>>16
	case "bool":
		return colour[0] >> 16
	}
	return colour[0]
}

// P15.4: the value of a constant expression is what the run makes of it.
func TestValueIsRun(t *testing.T) {
	others := 0
	for seed := range 1500 {
		w := &writer{chance: chance(seed), stage: fragment}
		ahead, kind := w.constants(), w.of(values()...)
		text := ahead + "void main(){const " + kind + " a=" + w.constant(kind, 3) + ";"
		c := shader(t, fragment, text+"}")
		v, err := sense.Value(c, last(c))
		if err != api.OK {
			t.Fatalf("%s: %d", text, err)
		}
		for i := range sizeOf(kind) {
			number := "a"
			if sizeOf(kind) > 1 {
				number += "xyzw"[i : i+1]
				text += baseOf(kind) + " " + number + "=a." + "xyzw"[i:i+1] + ";"
			}
			x, err := sense.Run(shader(t, fragment, text+"gl_FragColor="+whole(baseOf(kind), number)+";}"), api.Env{})
			if err != api.OK || read(baseOf(kind), x.Color) != v[i] {
				t.Fatalf("%s: number %d of %v; the run tells %v, %d", text, i, v, x, err)
			}
			if v[i] > 1 || v[i] < 0 {
				others++
			}
		}
		if behind := v; each(sizeOf(kind), func(i int) api.Fix { return v[i] }) != behind {
			t.Fatalf("%s: %v", text, v)
		}
	}
	if others < 500 {
		t.Error(others)
	}
}
