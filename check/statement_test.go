package check_test

import (
	"fmt"
	"strings"
	"testing"

	"paintbox/api"
)

// P14.1: NodeFunc: types; a sampler2D one is refused ahead of all that stands in it.
func TestFunctionTypes(t *testing.T) {
	for _, kind := range values() {
		passesBoth(t, kind+" f(){return "+kind+"(1);}void main(){}")
		passesBoth(t, kind+" f(){}void main(){}")
		refusedBoth(t, api.ErrMain, "~"+kind+" main(){return "+kind+"(1);}")
		refusedBoth(t, api.ErrMain, "~"+kind+" main(){}")
		refusedBoth(t, api.ErrMain, "~"+kind+" main(void a){b;}")
		refusedBoth(t, api.ErrMain, "~void main("+kind+" a){}")
		refusedBoth(t, api.ErrMain, "~void main(int b,"+kind+" a){c;}")
		refusedBoth(t, api.ErrMain, "void main(){}~"+kind+" main(){}")
	}
	passesBoth(t, "void f(){}void main(){}")
	refusedBoth(t, api.ErrMain, "~void main(sampler2D a){}")
	refusedBoth(t, api.ErrMain, "~void main(void a){}")
	for _, text := range []string{"~sampler2D f(){}", "~sampler2D f(){return 1;}", "uniform sampler2D s;~sampler2D f(){return s;}", "~sampler2D f(void a){b;}", "~sampler2D main(){}", "~sampler2D main(int a){}", "~sampler2D abs(){}", "int a;~sampler2D a(){}"} {
		refusedBoth(t, api.ErrType, text)
	}
}

// P14.1: NodeFunc: its name is given behind all that stands in it, in the whole shader's scope.
func TestFunctionName(t *testing.T) {
	refusedBoth(t, api.ErrName, "void f(){}void f(){~a;}")
	refusedBoth(t, api.ErrType, "void f(){}void f(void ~a){}")
	refusedBoth(t, api.ErrType, "void f(){}void f(){~return 1;}")
	refusedBoth(t, api.ErrName, "void abs(){~a;}")
	refusedBoth(t, api.ErrName, "~void abs(){int a;a;}")
	refusedBoth(t, api.ErrName, "~void gl_f(int a){a;}")
	passesBoth(t, "float f(float f){return f;}void main(){f(1.0);}")
	passesBoth(t, "float f(){float f=1.0;return f;}void main(){float a=f();}")
	passesBoth(t, "void main(){int main=1;main=2;}")
	passesBoth(t, "void f(int main){main=1;}void main(){}")
}

// P14.1: NodeParam: types.
func TestParameterTypes(t *testing.T) {
	for _, kind := range values() {
		passesBoth(t, "void f("+kind+" a){"+kind+" b=a;}void main(){f("+kind+"(1));}")
		refusedBoth(t, api.ErrType, "void f("+kind+" a,void ~b){}")
	}
	passesBoth(t, "uniform sampler2D s;vec4 f(sampler2D a){return texture2D(a,vec2(1.0));}void main(){f(s);}")
	refusedBoth(t, api.ErrType, "void f(void ~a){}")
	refusedBoth(t, api.ErrType, "void f(int a,void ~a){}")
	refusedBoth(t, api.ErrType, "void f(void ~abs){}")
	refusedBoth(t, api.ErrName, "void f(int ~abs,void a){}")
}

// P14.1: NodeIf: its expr is of bool.
func TestIf(t *testing.T) {
	for _, kind := range values() {
		for _, rest := range []string{";", "{}", "u;else u;"} {
			if text := within("~if(" + kind + "(1))" + rest); kind == "bool" {
				passesBoth(t, strings.Replace(text, "~", "", 1))
			} else {
				refusedBoth(t, api.ErrType, text)
			}
		}
	}
	refusedBoth(t, api.ErrType, within("~if(v());"))
	refusedBoth(t, api.ErrType, within("~if(s);"))
	refusedBoth(t, api.ErrName, within("if(~v);"))
	refusedBoth(t, api.ErrType, within("if(true)~if(1);"))
	refusedBoth(t, api.ErrType, within("if(true);else ~if(u);"))
	refusedBoth(t, api.ErrType, within("~if(1)if(2);else a;"))
	refusedBoth(t, api.ErrName, within("if(true){}else{}~a;"))
	passes(t, fragment, "void main(){if(gl_FrontFacing)discard;else if(gl_FragCoord.x<1.0)return;}")
}

// P14.1: NodeFor: loops of just MaxLoop rounds, of none, and of one more.
func TestFor(t *testing.T) {
	for _, row := range []struct {
		first, second int
		taken         bool
	}{
		{0, 0, true}, {0, 1, true}, {0, 63, true}, {0, 64, true}, {0, 65, false}, {1, 65, true}, {1, 66, false}, {-1, 63, true}, {-1, 64, false}, {-32, 32, true}, {-32, 33, false}, {-64, 0, true}, {-65, 0, false}, {-100, -36, true}, {-100, -35, false},
		{5, 3, true}, {0, -1, true}, {32767, -32767, true}, {-32767, 32767, false}, {-32767, 1, false}, {0, 32767, false}, {32703, 32767, true}, {32702, 32767, false}, {-32767, -32703, true}, {-32767, -32702, false}, {-1, 32767, false}, {0, 128, false},
	} {
		text := fmt.Sprintf("void main(){~for(int i=%d;i<%d;i++){}}", row.first, row.second)
		if row.taken {
			passesBoth(t, strings.Replace(text, "~", "", 1))
		} else {
			refusedBoth(t, api.ErrLoop, text)
		}
	}
	refusedBoth(t, api.ErrLoop, "void main(){for(int i=0;i<64;i++)~for(int j=0;j<65;j++);}")
	refusedBoth(t, api.ErrLoop, "void main(){for(int i=0;i<2;i++)~for(int i=0;i<65;i++)a;}")
	passesBoth(t, "void main(){for(int i=0;i<64;i++)for(int j=0;j<64;j++)for(int k=0;k<64;k++)for(int l=0;l<64;l++);}")
}

// P14.1: NodeReturn: none in a void function, just one of its type in others, wherever it stands.
func TestReturn(t *testing.T) {
	for _, place := range []string{"@", "{@}", "if(true)@", "if(true);else @", "for(int i=0;i<1;i++)@", "{;{{@}}}", "int a;@return;"} {
		refusedBoth(t, api.ErrType, "void f(){"+strings.Replace(place, "@", "~return 1;", 1)+"}")
		refusedBoth(t, api.ErrType, "void v(){}void f(){"+strings.Replace(place, "@", "~return v();", 1)+"}")
		refusedBoth(t, api.ErrName, "void f(){"+strings.Replace(place, "@", "return ~a();", 1)+"}")
		passesBoth(t, "void main(){"+strings.Replace(place, "@", "return;", 1)+"}")
	}
	for _, kind := range values() {
		refusedBoth(t, api.ErrType, kind+" f(){~return;}")
		refusedBoth(t, api.ErrType, "void v(){}"+kind+" f(){~return v();}")
		refusedBoth(t, api.ErrType, "uniform sampler2D s;"+kind+" f(){~return s;}")
		for _, other := range values() {
			if text := kind + " f(){{~return " + other + "(1);}}void main(){}"; kind == other {
				passesBoth(t, strings.Replace(text, "~", "", 1))
			} else {
				refusedBoth(t, api.ErrType, text)
			}
		}
	}
	refusedBoth(t, api.ErrType, "uniform sampler2D s;void f(){~return s;}")
	passesBoth(t, "float f(){return 1.0;return 2.0;}void g(){return;}int h(){if(true)return 1;return 2;}void main(){return;}")
	refusedBoth(t, api.ErrType, "float f(){return 1.0;}void g(){}int h(){~return 1.0;}")
	refusedBoth(t, api.ErrType, "float f(){return 1.0;}void main(){~return 1.0;}")
}

// P14.1: NodeDiscard: in the fragment stage alone, in main and elsewhere.
func TestDiscard(t *testing.T) {
	for _, text := range []string{"void main(){~discard;}", "void f(){~discard;}void main(){}", "float f(){if(true)~discard;}void main(){}", "void main(){{{~discard;}}discard;}", "void main(){for(int i=0;i<1;i++)~discard;}"} {
		refused(t, vertex, api.ErrPlace, text)
		passes(t, fragment, strings.Replace(text, "~", "", 1))
	}
}

// P14.1: NodeBlock, NodeExpr, NodeEmpty: whatever expression there is, of whatever type.
func TestOtherStatements(t *testing.T) {
	passesBoth(t, within(";{}{;}{{}{;;}}"))
	passesBoth(t, within("1;1.0;true;u;s;v();g(1.0);u+u;-u;!true;true?1:2;vec2(1.0).yx;int a;a=1;"))
	refusedBoth(t, api.ErrName, within(";;{;~a;}"))
}
