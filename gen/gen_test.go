package gen_test

import (
	"fmt"
	"math"
	"slices"
	"testing"

	"paintbox/api"
	"paintbox/check"
	"paintbox/code"
	"paintbox/gen"
	"paintbox/lex"
	"paintbox/parse"
	"paintbox/sense"
)

const (
	vertex   = api.StageVertex
	fragment = api.StageFragment
	one      = api.One
)

// shader answers the shader of a text.
func shader(t *testing.T, stage int, text string) api.Checked {
	t.Helper()
	l, spot := lex.Lex(text)
	if spot != (api.Spot{}) {
		t.Fatalf("Lex(%q): %v", text, spot)
	}
	x, spot := parse.Parse(l)
	if spot != (api.Spot{}) {
		t.Fatalf("Parse(%q): %v", text, spot)
	}
	c, spot := check.Check(x, stage)
	if spot != (api.Spot{}) {
		t.Fatalf("Check(%q), stage %d: %v", text, stage, spot)
	}
	return c
}

// numbers answers the vector of these numbers.
func numbers(l ...float64) api.Vec {
	var v api.Vec
	for i, x := range l {
		v[i] = api.Fix(math.Round(x * 65536))
	}
	return v
}

// alike tells whether two results are the same, field by field.
func alike(a, b api.Result) bool {
	return a.Position == b.Position && a.Size == b.Size && slices.Equal(a.Varyings, b.Varyings) && a.Color == b.Color && a.Discard == b.Discard
}

// written answers a shader's text.
func written(c api.Checked) string {
	text, _ := parse.Print(c.Tree)
	return text
}

// generated answers the code of a shader, once all is asked of it that hangs on no surroundings: that it may be, is of the shader's stage, has as much of each list as the shader has, and goes through its bytes.
func generated(t *testing.T, c api.Checked) api.Code {
	t.Helper()
	x, err := gen.Gen(c)
	if err != api.OK {
		t.Fatalf("%s\n%d", written(c), err)
	}
	if code.Check(x) != api.OK || x.Stage != c.Stage || x.Attribs != len(c.Attribs) || x.Uniforms != len(c.Uniforms) || x.Varyings != len(c.Varyings) {
		t.Fatalf("%s\n%d of stage %d, %d attributes, %d uniforms, %d varyings", written(c), code.Check(x), x.Stage, x.Attribs, x.Uniforms, x.Varyings)
	}
	b, err := code.Encode(x)
	y, wrong := code.Decode(b)
	if err != api.OK || wrong != api.OK || !code.Same(x, y) {
		t.Fatalf("%s\nEncode %d, Decode %d", written(c), err, wrong)
	}
	return x
}

// refused asks whether Gen answers this error, and nothing beside.
func refused(t *testing.T, c api.Checked, want api.Errno) {
	t.Helper()
	if x, err := gen.Gen(c); err != want || fmt.Sprint(x) != fmt.Sprint(api.Code{}) {
		t.Errorf("%s\n%v, %d; want nothing, %d", written(c), x, err, want)
	}
}

// comes asks whether just this comes of a shader's code; and of the shader, so that it is the code that is asked.
func comes(t *testing.T, stage int, text string, e api.Env, want api.Result) {
	t.Helper()
	c := shader(t, stage, text)
	if x, err := sense.Run(c, e); err != api.OK || !alike(x, want) {
		t.Fatalf("%s\nmeans %v, %d; want %v", text, x, err, want)
	}
	x := generated(t, c)
	if got := obeyed(t, x, e); !alike(got, want) {
		t.Errorf("%s\ncomes %v; want %v\n%v", text, got, want, x.Instrs)
	}
}

// means asks whether just that comes of a shader's code which comes of the shader, in these surroundings.
func means(t *testing.T, c api.Checked, x api.Code, e api.Env) api.Result {
	t.Helper()
	want, err := sense.Run(c, e)
	if got := obeyed(t, x, e); err != api.OK || !alike(got, want) {
		t.Fatalf("stage %d\n%s\n%v\ncomes %v; want %v, %d", c.Stage, written(c), e, got, want, err)
	}
	return want
}

// paints asks whether the code of a fragment shader leaves this colour, and nothing beside.
func paints(t *testing.T, text string, e api.Env, want api.Vec) {
	t.Helper()
	comes(t, fragment, text, e, api.Result{Color: want})
}

// rows holds what the statements of a main leave in gl_FragColor against what is wanted; and what they leave in gl_Position, where they stand in a vertex shader.
func rows(t *testing.T, ahead string, e api.Env, want map[string]api.Vec) {
	t.Helper()
	for statements, v := range want {
		text := ahead + "void main(){" + statements + "}"
		paints(t, text, e, v)
		if inVertex, may := forVertex(text); may {
			comes(t, vertex, inVertex, e, api.Result{Position: v})
		}
	}
}

// P17.1: the chapter's examples.
func TestExamples(t *testing.T) {
	paints(t, "void main(){gl_FragColor=vec4(1.0);}", api.Env{}, numbers(1, 1, 1, 1))
	comes(t, fragment, "void main(){discard;}", api.Env{}, api.Result{Discard: true})
}

// P17.1: the examples of chapter 15, and of the whole.
func TestExamplesOfSense(t *testing.T) {
	paints(t, "void main(){gl_FragColor=vec4(1.0,2.0,3.0,4.0).wzyx;}", api.Env{}, numbers(4, 3, 2, 1))
	paints(t, "uniform float u;void main(){gl_FragColor=vec4(u*2.0);}", api.Env{Uniforms: []api.Vec{numbers(3)}}, numbers(6, 6, 6, 6))
	paints(t, "void main(){int n=0;for(int i=1;i<4;i++){n+=i;}gl_FragColor=vec4(float(n/4));}", api.Env{}, numbers(1, 1, 1, 1))
	paints(t, "void main(){vec4 v;v.xy.y=1.0;gl_FragColor=v;}", api.Env{}, numbers(0, 1, 0, 0))
	comes(t, fragment, "void main(){if(true){discard;}gl_FragColor=vec4(1.0);}", api.Env{}, api.Result{Discard: true})
}

// P17.1: shaders that say nothing.
func TestNothing(t *testing.T) {
	for _, text := range []string{"void main(){}", "void main(){;}", "void main(){{}}", "void main(){return;}", "float a;void main(){}", "void f(){}void main(){}", "void main(){}float a=1.0;", "void main(){for(int i=0;i<0;i++)i;}"} {
		comes(t, vertex, text, api.Env{}, api.Result{})
		comes(t, fragment, text, api.Env{Coord: marked(), Front: true, Point: marked()}, api.Result{})
	}
}
