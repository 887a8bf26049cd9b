package sense_test

import (
	"fmt"
	"strings"
	"testing"

	"paintbox/api"
	"paintbox/sense"
)

// costs asks whether a shader has this cost.
func costs(t *testing.T, stage int, text string, want int) {
	t.Helper()
	if n := sense.Cost(shader(t, stage, text)); n != want {
		t.Errorf("%s\ncosts %d; want %d", text, n, want)
	}
}

// P15.2: the cost of every kind of node, as what it adds to that of an empty main.
func TestCostOfNodes(t *testing.T) {
	for statements, want := range map[string]int{
		"": 0, ";": 1, ";;": 2, "{}": 1, "{;;}": 3, "{{}}": 2,
		"float a;": 2, "float a,b;": 3, "float a=1.0;": 3, "float a,b=1.0;": 4, "const float a=1.0,b=a;": 5,
		"if(true);": 3, "if(true);else;": 4, "if(true){}else{;}": 5, "if(1<2){;}": 6,
		"return;": 1, "discard;": 1, "1;": 2, "1.0;": 2, "true;": 2, "-1;": 3, "- -1;": 4, "!true;": 3,
		"1+2;": 4, "1+2*3;": 6, "true&&false;": 4, "true||true;": 4, "1==2;": 4, "true?1:2;": 5, "true?1+1:2;": 7,
		"int a;a=1;": 6, "int a;a+=a=1;": 8, "vec2 a;a.x=1.0;": 7, "vec2 a;a.xy.y;": 6,
		"abs(1.0);": 3, "min(1.0,2.0);": 4, "mix(1.0,2.0,3.0);": 5, "vec2(1.0);": 3, "vec3(1.0,vec2(1.0));": 5, "vec2(1.0).x;": 4,
		"gl_FragColor;": 2, "gl_FragColor=vec4(1.0);": 5, "gl_FragCoord.x;": 3,
		"for(int i=0;i<3;i++);": 7, "for(int i=0;i<3;i++){}": 7, "for(int i=0;i<3;i++){i;}": 13, "for(int i=0;i<1;i++);": 3, "for(int i=0;i<64;i++);": 129,
		"for(int i=0;i<0;i++){i;i;i;}": 1, "for(int i=0;i<-5;i++){i;}": 1, "for(int i=7;i<7;i++);": 1, "for(int i=7;i<6;i++);": 1, "for(int i=0;i<-32767;i++);": 1, "for(int i=32767;i<0;i++);": 1,
		"for(int i=-2;i<2;i++){;}": 13, "for(int i=-5;i<-3;i++);": 5, "for(int i=-5;i<-5;i++);": 1, "for(int i=-64;i<0;i++);": 129,
		"for(int i=0;i<2;i++)for(int k=0;k<3;k++);": 17, "for(int i=0;i<2;i++)for(int k=0;k<0;k++);": 5, "for(int i=0;i<0;i++)for(int k=0;k<64;k++);": 1, "if(true)for(int i=0;i<2;i++);": 7,
	} {
		for _, stage := range []int{vertex, fragment} {
			if stage == vertex && (strings.Contains(statements, "gl_Frag") || statements == "discard;") {
				continue
			}
			costs(t, stage, "void main(){"+statements+"}", 2+want)
		}
	}
}

// P15.2: the cost of functions is that of each call; one that is not called costs nothing.
func TestCostOfCalls(t *testing.T) {
	const f = "float f(float a,float b){return a;}" // 6
	costs(t, vertex, f+"void main(){}", 2)
	costs(t, vertex, f+"void main(){f(1.0,2.0);}", 2+10)
	costs(t, vertex, f+"void main(){f(1.0,2.0);f(1.0,2.0);}", 2+20)
	costs(t, vertex, f+"void main(){f(1.0,2.0)+f(1.0,2.0);}", 2+20)
	costs(t, vertex, f+"void main(){f(f(1.0,2.0),3.0);}", 2+18)
	costs(t, vertex, f+"void main(){for(int i=0;i<3;i++)f(1.0,2.0);}", 2+1+3*11)
	costs(t, vertex, f+"void main(){for(int i=3;i<3;i++)f(1.0,2.0);}", 2+1)
	costs(t, vertex, f+"void main(){if(false)f(1.0,2.0);true||f(1.0,2.0)>1.0;}", 2+12+14)
	costs(t, vertex, "void g(){}void main(){g();}", 2+2+2)
	costs(t, vertex, "void g(){}void h(){g();g();}void main(){h();}", 2+2+10)
	costs(t, vertex, "void g(){}void h(){g();g();}void main(){h();g();h();}", 2+12+4+12)
	costs(t, vertex, "void main(){}void g(){;;;}void h(){g();}", 2)
	costs(t, vertex, "void g(){return;return;}void main(){g();return;;;}", 2+6+3)
}

// P15.2: all declarations of the whole shader count, wherever they stand, and whether main asks for them or not.
func TestCostOfWhole(t *testing.T) {
	costs(t, vertex, "attribute vec4 p;uniform float u,w;varying vec2 v;const float k=1.0+2.0;float m;void main(){}int z=1,y=2;", 2+2+3+2+5+2+5)
	costs(t, fragment, "uniform sampler2D s;void main(){}", 4)
	costs(t, fragment, "void f(){float a,b,c;}void main(){}", 2)
	costs(t, fragment, "const float a=1.0;void main(){const float b=a;}", 3+2+3)
}

// doubled answers functions of which each calls the one ahead of it twice.
func doubled(n int) string {
	text := "void f0(){;}"
	for i := range n {
		text += fmt.Sprintf("void f%d(){f%d();f%d();}", i+1, i, i)
	}
	return text
}

// P15.2, P15.3: what passes the bound many times is told as one more than it, and ends; a loop with no round costs 1 even so.
func TestCostPassesBound(t *testing.T) {
	far := doubled(100)
	costs(t, vertex, far+"void main(){f100();}", api.MaxSteps+1)
	costs(t, vertex, far+"void main(){f100();f100();f100();}", api.MaxSteps+1)
	costs(t, vertex, far+"void main(){for(int i=0;i<64;i++)for(int k=0;k<64;k++)for(int m=0;m<64;m++)f100();}", api.MaxSteps+1)
	costs(t, vertex, far+"void main(){}", 2)
	costs(t, vertex, far+"void main(){for(int i=0;i<0;i++)f100();}", 3)
	costs(t, vertex, far+"void main(){for(int i=0;i<0;i++){f100();f100();}f0();}", 3+5)
	refused(t, shader(t, vertex, far+"void main(){f100();}"), api.Env{}, api.ErrLong)
	refused(t, shader(t, vertex, far+"void main(){if(false)f100();}"), api.Env{}, api.ErrLong)
	comes(t, vertex, far+"void main(){for(int i=0;i<0;i++)f100();gl_PointSize=1.0;}", api.Env{}, api.Result{Size: one})
}

// padding answers statements that cost this much.
func padding(cost int) string {
	text := ""
	for ; cost >= 129; cost -= 129 {
		text += "for(int i=0;i<64;i++);"
	}
	if cost%2 == 0 {
		text += ";"
		cost--
	}
	return text + fmt.Sprintf("for(int i=0;i<%d;i++);", (cost-1)/2)
}

// P15.2, P15.3: just MaxSteps is run, one more is not.
func TestCostAtBound(t *testing.T) {
	const loops = "for(int i=0;i<64;i++)for(int k=0;k<64;k++)n+=1;" // 1 + 64 (1 + 1 + 64 (1 + 4)), 20609
	const head, tail = "int n=0;", "gl_FragColor=vec4(float(n/3));"
	for _, text := range []string{"void main(){" + head + strings.Repeat(loops, 3) + "%s" + tail + "}", "int n=0;void f(){" + loops + "}void main(){f();f();f();%s" + tail + "}"} {
		rest := api.MaxSteps - sense.Cost(shader(t, fragment, fmt.Sprintf(text, "")))
		for more := -2; more <= 3; more++ {
			c := shader(t, fragment, fmt.Sprintf(text, padding(rest+more)))
			if got, want := sense.Cost(c), min(api.MaxSteps+more, api.MaxSteps+1); got != want {
				t.Errorf("%d more than the bound: %d", more, got)
			}
			if more > 0 {
				refused(t, c, api.Env{}, api.ErrLong)
				continue
			}
			if x, err := sense.Run(c, api.Env{}); err != api.OK || x.Color != numbers(4096, 4096, 4096, 4096) {
				t.Errorf("%d more than the bound: %v, %d", more, x, err)
			}
		}
	}
}

// P15.3: ErrArg goes ahead of ErrLong.
func TestArgAheadOfLong(t *testing.T) {
	const text = "uniform float u;varying float v;void main(){for(int i=0;i<64;i++)for(int k=0;k<64;k++)for(int m=0;m<64;m++);}"
	l := make([]api.Vec, 1)
	for _, stage := range []int{vertex, fragment} {
		c := shader(t, stage, text)
		fits := api.Env{Uniforms: l}
		if stage == fragment {
			fits.Varyings = l
		}
		refused(t, c, fits, api.ErrLong)
		refused(t, c, api.Env{}, api.ErrArg)
		long := fits
		long.Attribs = l
		refused(t, c, long, api.ErrArg)
		c.Main++
		refused(t, c, fits, api.ErrArg)
	}
}
