package check_test

import (
	"fmt"
	"strings"
	"testing"

	"paintbox/api"
	"paintbox/kinds"
)

// of answers the type of a word.
func of(t *testing.T, word string) api.Type {
	t.Helper()
	x, err := kinds.Of(word)
	if err != api.OK {
		t.Fatal(word)
	}
	return x
}

// around answers statements in a function that has parameters a, b and c of these types; a void one is a call of a void function.
func around(statements string, a, b, c string) string {
	params := []string{}
	for i, kind := range []string{a, b, c} {
		name := "abc"[i : i+1]
		if kind == "void" {
			statements = strings.ReplaceAll(statements, name+"#", "v()")
			continue
		}
		statements = strings.ReplaceAll(statements, name+"#", name)
		params = append(params, kind+" "+name)
	}
	return "void v(){}void f(" + strings.Join(params, ",") + "){" + statements + "}void main(){}"
}

// comes asks whether the node at the mark has this type, or is refused with that error, in both stages.
func comes(t *testing.T, text string, kind api.Type, err api.Errno) {
	t.Helper()
	if err != api.OK {
		refusedBoth(t, err, text)
		return
	}
	at := strings.Index(text, "~")
	for _, stage := range both() {
		c := passes(t, stage, strings.Replace(text, "~", "", 1))
		found := 0
		for i, n := range c.Tree.Nodes {
			if n.At == at && n.Kind != api.NodeExpr {
				found++
				if c.Types[i] != kind {
					t.Errorf("%q: %v, not %v", text, c.Types[i], kind)
				}
			}
		}
		if found != 1 {
			t.Fatalf("%q: %d nodes at the mark", text, found)
		}
	}
}

// P14.1, P14.2: NodeBinary: each operator with all types.
func TestBinary(t *testing.T) {
	for _, op := range strings.Fields("+ - * / < > <= >= == != && ||") {
		for _, a := range words() {
			for _, b := range words() {
				kind, err := kinds.Binary(op, of(t, a), of(t, b))
				comes(t, around("a#~"+op+"b#;", a, b, "int"), kind, err)
			}
		}
	}
}

// P14.1, P14.2: NodeUnary: both operators with all types.
func TestUnary(t *testing.T) {
	for _, op := range []string{"-", "!"} {
		for _, a := range words() {
			kind, err := kinds.Unary(op, of(t, a))
			comes(t, around("~"+op+"a#;", a, "int", "int"), kind, err)
		}
	}
}

// P14.1, P14.2: NodeCond: all types.
func TestCond(t *testing.T) {
	for _, a := range words() {
		for _, b := range words() {
			for _, c := range []string{a, b, "float", "bool", "void"} {
				kind, err := kinds.Cond(of(t, c), of(t, a), of(t, b))
				comes(t, around("c#~?a#:b#;", a, b, c), kind, err)
			}
			kind, err := kinds.Cond(of(t, "bool"), of(t, a), of(t, b))
			comes(t, around("true~?a#:b#;", a, b, "int"), kind, err)
		}
	}
}

// P14.1, P14.2: NodeAssign: each operator with all types; what is no place that may be written goes ahead.
func TestAssign(t *testing.T) {
	for _, op := range strings.Fields("= += -= *= /=") {
		for _, a := range words() {
			for _, b := range words() {
				if a == "void" {
					continue
				}
				kind, err := kinds.Assign(op, of(t, a), of(t, b))
				comes(t, around("a#~"+op+"b#;", a, b, "int"), kind, err)
				if a != "sampler2D" && b != "void" && b != "sampler2D" {
					comes(t, "void main(){const "+a+" x="+a+"(1);x~"+op+b+"(1);}", api.Type{}, api.ErrPlace)
				}
			}
		}
	}
	passesBoth(t, "void main(){int a,b,c;a=b=c=1;a+=b-=2;}")
	refusedBoth(t, api.ErrType, "void main(){int a,b;float c;a=b~=c=1.0;}")
	refusedBoth(t, api.ErrPlace, "uniform int u;void main(){int a,b;a=u~=b;}")
}

// P14.1: NodeAssign: what may be written, and what may not.
func TestWritten(t *testing.T) {
	for _, stage := range both() {
		for _, text := range []string{
			"float a;void main(){a~=1.0;}", "vec2 a;void main(){a~=vec2(1.0);}", "void main(){float a;a~=1.0;}", "void f(float a){a~=1.0;}void main(){}", "void main(){float a=1.0;{a~=2.0;}}", "void main(){vec2 a;a.x~=1.0;}", "void main(){vec4 a;a.wzyx~=a;}",
			"void main(){vec4 a;a.xy.y~=1.0;}", "void main(){vec4 a;a.rgba.stp.xy~=a.xx;}", "void f(vec3 a){a.zx~*=2.0;}void main(){}", "void main(){vec2 a;((a).x)~=1.0;}", "void main(){bvec4 a;a.q~=true;}",
		} {
			passes(t, stage, strings.Replace(text, "~", "", 1))
		}
		for _, text := range []string{
			"uniform float a;void main(){a~=1.0;}", "const float a=1.0;void main(){a~=1.0;}", "void main(){const float a=1.0;a~=1.0;}", "void main(){for(int i=0;i<1;i++)i~=1;}", "uniform vec2 a;void main(){a.x~=1.0;}", "uniform vec2 a;void main(){a.xy.x~=1.0;}",
			"void main(){vec2 a;a.xx~=vec2(1.0);}", "void main(){vec4 a;a.xyzx~=a;}", "void main(){vec4 a;a.xyzz~=a;}", "void main(){vec4 a;a.xyy~=vec3(1.0);}", "void main(){vec4 a;a.xyxy~=a;}", "void main(){vec4 a;a.rr.r~=1.0;}", "void main(){vec4 a;a.xx.y~=1.0;}",
			"void main(){vec4 a;a.xy.xx~=a.xy;}", "void main(){vec4 a;a.xyz.yy.x~=1.0;}", "void main(){vec2(1.0).x~=1.0;}", "vec2 f(){return vec2(1.0);}void main(){f().x~=1.0;}", "void main(){vec2 a;(a=a).x~=1.0;}", "void main(){vec2 a;(a+a).x~=1.0;}",
			"void main(){vec2 a;(-a).x~=1.0;}", "void main(){vec2 a;(true?a:a).x~=1.0;}", "uniform sampler2D a;void main(){a~=a;}", "void main(){const vec2 a=vec2(1.0);a.x~+=1.0;}", "uniform float a;void f(){float a;}void main(){a~=1.0;}",
		} {
			refused(t, stage, api.ErrPlace, text)
		}
		refused(t, stage, api.ErrType, "void f(sampler2D a,sampler2D b){a~=b;}void main(){}")
	}
}

// P14.1: NodeAssign: varyings are written in the vertex stage alone, attributes nowhere; built-in variables.
func TestWrittenByStage(t *testing.T) {
	passes(t, vertex, "varying vec2 a;void main(){a=vec2(1.0);a.x+=1.0;a.yx.x=1.0;}")
	refused(t, fragment, api.ErrPlace, "varying vec2 a;void main(){a~=vec2(1.0);}")
	refused(t, fragment, api.ErrPlace, "varying vec2 a;void main(){a.x~+=1.0;}")
	refused(t, vertex, api.ErrPlace, "varying vec2 a;void main(){a.xx~=vec2(1.0);}")
	refused(t, vertex, api.ErrPlace, "attribute vec2 a;void main(){a~=vec2(1.0);}")
	refused(t, vertex, api.ErrPlace, "attribute vec2 a;void main(){a.y~-=1.0;}")
	passes(t, vertex, "void main(){gl_Position=vec4(1.0);gl_Position.wz=vec2(1.0);gl_PointSize*=2.0;}")
	passes(t, fragment, "void main(){gl_FragColor=vec4(1.0);gl_FragColor.rgb.b=1.0;gl_FragColor/=2.0;}")
	refused(t, vertex, api.ErrPlace, "void main(){gl_Position.xx~=vec2(1.0);}")
	refused(t, fragment, api.ErrPlace, "void main(){gl_FragColor.aa~=vec2(1.0);}")
	refused(t, fragment, api.ErrPlace, "void main(){gl_FragCoord~=vec4(1.0);}")
	refused(t, fragment, api.ErrPlace, "void main(){gl_FragCoord.x~=1.0;}")
	refused(t, fragment, api.ErrPlace, "void main(){gl_FrontFacing~=true;}")
	refused(t, fragment, api.ErrPlace, "void main(){gl_PointCoord~=vec2(1.0);}")
	refused(t, fragment, api.ErrPlace, "void main(){gl_PointCoord.s~=1.0;}")
}

// P14.1, P14.2: NodeField: all types with names that are fields, and that are not; of void and of a sampler ErrType.
func TestField(t *testing.T) {
	names := strings.Fields("x y z w r g b a s t p q xx xy yx xyz zyx xyzw wwww rgb bgra stpq sq ab xg xyr xs X k xyzwx rgbag xx_ v x1 length abs gl_x a1")
	for _, kind := range words() {
		for _, name := range names {
			what, _, err := kinds.Field(of(t, kind), name)
			if kind == "void" || kind == "sampler2D" {
				err = api.ErrType
			}
			comes(t, around("a#.~"+name+";", kind, "int", "int"), what, err)
		}
	}
	refusedBoth(t, api.ErrField, "void main(){vec4 a;a.x.~x;}")
	refusedBoth(t, api.ErrField, "void main(){vec4 a;a.xy.~z;}")
	refusedBoth(t, api.ErrField, "void main(){(1.0).~x;}")
	refusedBoth(t, api.ErrField, "void main(){true.~x;}")
	refusedBoth(t, api.ErrName, "void main(){~a.b;}")
}

// P14.1, P14.2: NodeCall of types' words: all words with one argument of all types, and some with more; void and sampler2D make nothing.
func TestCallWord(t *testing.T) {
	for _, word := range words() {
		for _, a := range words() {
			kind, _, err := kinds.Call(word, []api.Type{of(t, a)})
			if err != api.OK {
				err = api.ErrType
			}
			comes(t, around("~"+word+"(a#);", a, "int", "int"), kind, err)
			for _, b := range []string{"float", "ivec2", "bvec3", "void", "sampler2D"} {
				kind, _, err := kinds.Call(word, []api.Type{of(t, a), of(t, b)})
				if err != api.OK {
					err = api.ErrType
				}
				comes(t, around("~"+word+"(a#,b#);", a, b, "int"), kind, err)
			}
		}
		refusedBoth(t, api.ErrType, "void main(){~"+word+"();}")
		refusedBoth(t, api.ErrName, "void main(){"+word+"(~a);}")
	}
}

// P14.1, P14.2: NodeCall of built-in functions: all of them with some types.
func TestCallBuiltin(t *testing.T) {
	names := strings.Fields("abs sign floor fract sqrt inversesqrt exp2 log2 sin cos normalize min max mod pow step mix clamp dot length cross texture2D")
	for _, name := range names {
		for _, a := range words() {
			for _, b := range []string{a, "float", "vec2", "vec3", "int", "void"} {
				for _, c := range []string{a, b, "float"} {
					for n := range 4 {
						l := []api.Type{of(t, a), of(t, b), of(t, c)}[:n]
						if n > 2 && b == "void" || c == "void" && n < 3 {
							continue
						}
						kind, _, err := kinds.Call(name, l)
						comes(t, around("~"+name+"("+strings.Join([]string{"a#", "b#", "c#"}[:n], ",")+");", a, b, c), kind, err)
					}
				}
			}
		}
		refusedBoth(t, api.ErrName, "void main(){"+name+"(~k);}")
	}
}

// P14.1: NodeCall of the shader's own functions: those that are given ahead of it, and are not main.
func TestCallOwn(t *testing.T) {
	passesBoth(t, "void f(){}void main(){f();}")
	passesBoth(t, "float f(){return 1.0;}float g(){return f()+f();}void main(){float a=g();}")
	passesBoth(t, "float f(float a){return a;}void main(){f(f(f(1.0)));}")
	passesBoth(t, "void f(){}void g(){int f;}void main(){f();}")
	passesBoth(t, "void f(){}void main(){{int f;}f();}")
	passesBoth(t, "void f(){}void main(){f();int f;f=1;}")
	for _, text := range []string{
		"void main(){~f();}", "void f(){~f();}", "float f(){return ~f();}", "float f(int a){return 1.0+~f(a);}", "void f(){~g();}void g(){}", "void g(){~f();}void f(){}", "void f(){~g();}void g(){f();}", "void main(){~main();}", "void main(){}void f(){~main();}",
		"float a;void main(){~a();}", "void f(int a){~a();}", "void main(){int a;~a();}", "void main(){for(int i=0;i<1;i++)~i();}", "const float a=1.0;void main(){~a(1.0);}", "uniform sampler2D a;void main(){~a();}", "void f(){}void main(){int f;~f();}",
		"void f(){}void g(int f){~f();}", "void f(){}void main(){for(int f=0;f<1;f++)~f();}", "void f(){}void main(){{int f;{~f();}}}", "void main(){~tan(1.0);}", "void main(){~gl_a();}", "void main(){~mat2(1.0);}", "float a=~f();float f(){return 1.0;}", "void main(){~Abs(1.0);}",
		"void main(){int main;~main();}",
	} {
		refusedBoth(t, api.ErrName, text)
	}
}

// P14.1: NodeCall of the shader's own functions: just as many arguments, of just these types.
func TestCallArguments(t *testing.T) {
	for _, a := range append(values(), "sampler2D") {
		for _, b := range words() {
			head := fmt.Sprintf("void v(){}float h(%s p){return 1.0;}", a)
			for row, same := range map[string]bool{"~h(a#);": a == b, "~h();": false, "~h(a#,a#);": false} {
				if text := head + strings.TrimPrefix(around(row, b, "int", "int"), "void v(){}"); same {
					comes(t, text, of(t, "float"), api.OK)
				} else {
					refusedBoth(t, api.ErrType, text)
				}
			}
		}
	}
	head := "vec2 f(int a,float b,bool c){return vec2(1.0);}void f0(){}void main(){"
	comes(t, head+"~f(1,1.0,true);}", of(t, "vec2"), api.OK)
	comes(t, head+"~f0();}", of(t, "void"), api.OK)
	for _, args := range []string{"", "1", "1,1.0", "1,1.0,true,1", "1.0,1,true", "1,1.0,1", "true,1.0,1", "1,vec2(1.0),true", "ivec2(1),1.0,true", "1,1.0,bvec2(true)", "1,1,true", "1.0,1.0,true"} {
		refusedBoth(t, api.ErrType, head+"~f("+args+");}")
	}
	refusedBoth(t, api.ErrType, head+"~f0(1);}")
	refusedBoth(t, api.ErrType, head+"~f0(f0());}")
	refusedBoth(t, api.ErrType, head+"~f(f0(),1.0,true);}")
}
