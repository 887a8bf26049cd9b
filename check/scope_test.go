package check_test

import (
	"strings"
	"testing"

	"paintbox/api"
)

// P14.1: a name given twice in one scope, to whatever nodes.
func TestGivenTwice(t *testing.T) {
	for _, text := range []string{
		"float a;float ~a;", "float a,~a;", "float a;const int ~a=1;", "uniform float a;varying float ~a;", "uniform float a;uniform float ~a;", "float a;~void a(){}", "void a(){}float ~a;", "void a(){}~void a(){}", "void a(){}~float a(int b){return 1.0;}",
		"float a;void f(){}~int a(){return 1;}", "float main;~void main(){}", "void main(){}~void main(){}", "void main(){}float ~main;", "void f(int a,int ~a){}", "void f(int a,float b,vec2 ~a){}", "void main(){int a;int ~a;}",
		"void main(){int a,~a;}", "void main(){int a;float ~a;}", "void main(){const int a=1;int ~a;}", "void main(){int a;{int a;}int ~a;}", "void main(){{int a;int ~a;}}", "void main(){if(true){int a;int ~a;}}", "void main(){if(true)int a,~a;}",
		"void main(){for(int i=0;i<1;i++){int a;int ~a;}}", "void main(){for(int i=0;i<1;i++)int a,~a;}", "float a;void f(){float a;}float ~a;",
	} {
		refusedBoth(t, api.ErrName, text)
	}
}

// P14.1: a parameter's name given anew in the function's own block, and in inner ones.
func TestParameterAnew(t *testing.T) {
	refusedBoth(t, api.ErrName, "void f(int a){int ~a;}")
	refusedBoth(t, api.ErrName, "void f(int a,int b){float c;const float ~b=1.0;}")
	passesBoth(t, "void f(int a){{int a;}}void main(){}")
	passesBoth(t, "void f(int a){if(true)int a;}void main(){}")
	passesBoth(t, "void f(int a){if(true);else int a;}void main(){}")
	passesBoth(t, "void f(int a){for(int a=0;a<1;a++);}void main(){}")
	passesBoth(t, "void f(int a){for(int i=0;i<1;i++)int a;}void main(){}")
	passesBoth(t, "void f(int a){}void g(int a){}void h(){int a;}void main(){int a;}")
}

// P14.1: a name given anew in an inner scope means the inner one there, and the outer one behind it. The types tell which.
func TestGivenAnew(t *testing.T) {
	passesBoth(t, "float a;void main(){a=1.0;vec2 a;a=vec2(1.0);{a=vec2(2.0);int a;a=1;{bool a;a=true;}a=2;}a=vec2(3.0);}void f(){a=2.0;}")
	passesBoth(t, "float a;void f(int a){a=1;{vec2 a;a=vec2(1.0);}a=2;}void main(){a=1.0;}")
	passesBoth(t, "float a;void main(){for(int a=0;a<2;a++){int b=a;vec2 a=vec2(a);a.x=1.0;}a=1.0;}")
	passesBoth(t, "float a;void main(){if(a<1.0)int a=1;else a=1.0;a=2.0;}")
	passesBoth(t, "float a;void main(){if(a<1.0){a=1.0;int a=1;a=2;}else{a=1.0;vec2 a;a=vec2(a);}a=2.0;}")
	refusedBoth(t, api.ErrType, "float a;void main(){{int a;}a~=1;}")
	refusedBoth(t, api.ErrType, "float a;void main(){{int a;a~=1.0;}}")
	refusedBoth(t, api.ErrType, "float a;void f(int a){a~=1.0;}")
	refusedBoth(t, api.ErrType, "float a;void main(){for(int i=0;i<1;i++){int a;}a~=1;}")
	refusedBoth(t, api.ErrType, "float a;void main(){if(true)int a;a~=1;}")
	refusedBoth(t, api.ErrType, "float a;void main(){if(true)int a;else a~=1;}")
	refusedBoth(t, api.ErrType, "float a;void main(){for(int a=0;a<1;a++){}a~=1;}")
	refusedBoth(t, api.ErrType, "float a;void f(){int a;}void g(){a~=1;}")
	refusedBoth(t, api.ErrType, "vec2 a;void main(){{{{a~=1.0;}}}}")
}

// P14.1: names used ahead of where they are given, and behind the end of their scope.
func TestUsedElsewhere(t *testing.T) {
	for _, text := range []string{
		"void main(){~a;int a;}", "void main(){~a=1;}int a;", "float a=~b;const float b=1.0;", "void main(){{int a;}~a;}", "void main(){{{int a;}~a;}}", "void f(int a){}void main(){~a;}", "void f(){int a;}void main(){~a;}",
		"void main(){if(true)int a;~a;}", "void main(){if(true)int a;else ~a;}", "void main(){if(true);else int a;~a;}", "void main(){if(true){int a;}else{~a;}}", "void main(){for(int i=0;i<1;i++);~i;}", "void main(){for(int i=0;i<1;i++)int a;~a;}",
		"void main(){for(int i=0;i<1;i++){int a;}~a;}", "void main(){for(int i=0;i<1;i++){~a;int a;}}", "void main(){for(int i=0;i<1;i++);for(int j=0;j<1;j++){~i;}}", "void f(int a){}void g(){~a;}", "void f(float a,float b){{float c;}~c;}",
		"void main(){if(~a){}int a;}", "void main(){if(true)~a;else int a;}", "void f(){~a;}const int a=1;", "void main(){~b;{int b;}}", "void main(){int a=1;{int b=a;}a=~b;}",
	} {
		refusedBoth(t, api.ErrName, text)
	}
}

// P14.1: a for's name within it: of type int, hidden by its statement's own names; the statement has a scope of its own.
func TestForName(t *testing.T) {
	passesBoth(t, "void main(){for(int i=0;i<2;i++){int a=i;}}")
	passesBoth(t, "void main(){for(int i=0;i<2;i++)int a=i;}")
	passesBoth(t, "void main(){for(int i=0;i<2;i++)int i=i;}")
	passesBoth(t, "void main(){for(int i=0;i<2;i++){int i=i;}}")
	passesBoth(t, "void main(){for(int i=0;i<2;i++){float i;}}")
	passesBoth(t, "void main(){int i;for(int i=0;i<2;i++);}")
	passesBoth(t, "void main(){for(int i=0;i<2;i++);for(int i=0;i<2;i++);int i;}")
	passesBoth(t, "void main(){for(int i=0;i<2;i++)for(int i=0;i<2;i++){int b=i;}}")
	passesBoth(t, "void main(){for(int i=0;i<2;i++)for(int j=0;j<2;j++)int k=i+j;}")
	refusedBoth(t, api.ErrType, "void main(){for(int i=0;i<2;i++){float ~a=i;}}")
	refusedBoth(t, api.ErrPlace, "void main(){for(int i=0;i<2;i++)i~=1;}")
	refusedBoth(t, api.ErrPlace, "void main(){for(int i=0;i<2;i++){i~+=1;}}")
	passesBoth(t, "void main(){for(int i=0;i<2;i++){int i;i=1;}}")
}

// P14.1: each statement of an if, and that of a for, has a scope of its own.
func TestStatementScopes(t *testing.T) {
	passesBoth(t, "void main(){int a;if(true)int a;}")
	passesBoth(t, "void main(){int a;if(true)int a;else int a;int b;}")
	passesBoth(t, "void main(){if(true)int a;else float a=1.0;bool a;}")
	passesBoth(t, "void main(){if(true)if(true)int a;else int a;else int a;}")
	passesBoth(t, "void main(){int a;for(int i=0;i<1;i++)int a;int i;}")
	passesBoth(t, "void main(){if(true)for(int i=0;i<1;i++)int i;int i;}")
	passesBoth(t, "void main(){{}{int a;}{int a;}int a;{}}")
}

// P14.1: names of built-in functions, and names that begin with gl_, given to each kind of node; names that are near them may be given.
func TestNamesThatMayNotBe(t *testing.T) {
	wrong := strings.Fields("abs sign floor fract sqrt inversesqrt exp2 log2 sin cos normalize min max mod pow step mix clamp dot length cross texture2D gl_ gl_a gl__ gl_Position gl_PointSize gl_FragCoord gl_FrontFacing gl_PointCoord gl_FragColor gl_main")
	good := strings.Fields("Abs abs_ abs1 ab texture texture2d gl g gl1 GL_a Gl_a _gl_a a_gl_ agl_Position mix2 a A _ x xyzw f1 tan atan vec mat2")
	rows := []string{
		"float ~@;void main(){}", "uniform float ~@;void main(){}", "varying float ~@;void main(){}", "const float ~@=1.0;void main(){}", "float a,~@;void main(){}", "~void @(){}void main(){}", "~float @(int a){return 1.0;}void main(){}",
		"void f(int ~@){}void main(){}", "void f(int a,int ~@){}void main(){}", "void main(){int ~@;}", "void main(){const int ~@=1;}", "void main(){int b=1,~@=1;}", "void main(){{int ~@;}}", "void main(){~for(int @=0;@<1;@++);}",
		"void main(){for(int i=0;i<1;i++)int ~@;}", "void main(){if(true)int ~@;}",
	}
	for _, row := range rows {
		for _, name := range wrong {
			refusedBoth(t, api.ErrName, strings.ReplaceAll(row, "@", name))
		}
		for _, name := range good {
			if strings.Contains(row, " a") && name == "a" {
				continue
			}
			passesBoth(t, strings.ReplaceAll(strings.Replace(row, "~", "", 1), "@", name))
		}
	}
	refused(t, vertex, api.ErrName, "attribute vec4 ~gl_a;")
	refused(t, vertex, api.ErrName, "attribute vec4 ~mix;")
	passes(t, vertex, "attribute vec4 glow;void main(){}")
}

// P14.1: NodeName: what it may mean.
func TestNames(t *testing.T) {
	passesBoth(t, "float a;uniform float b;varying float c;const float d=1.0;void f(float e){a;b;c;d;e;for(int i=0;i<1;i++)i;float g;g;}void main(){}")
	passes(t, vertex, "attribute float a;void main(){a;}")
	for _, text := range []string{
		"void main(){~a;}", "void f(){}void main(){~f;}", "float f(){return 1.0;}float g(){return ~f;}", "void main(){~main;}", "void main(){}void f(){~main;}", "void main(){~abs;}", "void main(){~texture2D;}", "void main(){~gl_a;}", "void main(){~gl_;}",
		"void main(){~gl_position;}", "void f(){}void main(){~f=1;}", "void f(){}void main(){~f.x;}", "void main(){~abs=1;}", "void f(){}float a=~f;",
	} {
		refusedBoth(t, api.ErrName, text)
	}
}

// P14.1: built-in variables of the stage, and of the other one.
func TestBuiltinVariables(t *testing.T) {
	for _, row := range []struct {
		stage      int
		name, kind string
	}{
		{vertex, "gl_Position", "vec4"}, {vertex, "gl_PointSize", "float"}, {fragment, "gl_FragCoord", "vec4"}, {fragment, "gl_FrontFacing", "bool"}, {fragment, "gl_PointCoord", "vec2"}, {fragment, "gl_FragColor", "vec4"},
	} {
		other := vertex + fragment - row.stage
		for _, kind := range values() {
			if text := "void main(){" + kind + " ~a=" + row.name + ";}"; kind == row.kind {
				passes(t, row.stage, strings.Replace(text, "~", "", 1))
			} else {
				refused(t, row.stage, api.ErrType, text)
			}
			refused(t, other, api.ErrName, "void main(){"+kind+" a=~"+row.name+";}")
		}
		passes(t, row.stage, "void main(){"+row.name+";}")
		refused(t, other, api.ErrName, "void main(){~"+row.name+";}")
		refused(t, row.stage, api.ErrName, "void main(){~"+row.name+"();}")
		refused(t, other, api.ErrName, "void main(){~"+row.name+"();}")
		refused(t, other, api.ErrName, "void main(){~"+row.name+"="+row.kind+"(1.0);}")
		if text := "void main(){" + row.name + "~=" + row.kind + "(1.0);}"; strings.Contains("gl_Position gl_PointSize gl_FragColor", row.name) {
			passes(t, row.stage, strings.Replace(text, "~", "", 1))
		} else {
			refused(t, row.stage, api.ErrPlace, text)
		}
	}
}
