package sense_test

import (
	"math"
	"slices"
	"testing"

	"paintbox/api"
	"paintbox/check"
	"paintbox/lex"
	"paintbox/parse"
	"paintbox/sense"
)

const (
	vertex   = api.StageVertex
	fragment = api.StageFragment
	one      = api.One
)

// shader answers the shader of a text.
func shader(t *testing.T, stage int, text string) api.Checked {
	t.Helper()
	l, spot := lex.Lex(text)
	if spot != (api.Spot{}) {
		t.Fatalf("Lex(%q): %v", text, spot)
	}
	x, spot := parse.Parse(l)
	if spot != (api.Spot{}) {
		t.Fatalf("Parse(%q): %v", text, spot)
	}
	c, spot := check.Check(x, stage)
	if spot != (api.Spot{}) {
		t.Fatalf("Check(%q), stage %d: %v", text, stage, spot)
	}
	return c
}

// numbers answers the vector of these numbers.
func numbers(l ...float64) api.Vec {
	var v api.Vec
	for i, x := range l {
		v[i] = api.Fix(math.Round(x * 65536))
	}
	return v
}

// alike tells whether two results are the same, field by field.
func alike(a, b api.Result) bool {
	return a.Position == b.Position && a.Size == b.Size && slices.Equal(a.Varyings, b.Varyings) && a.Color == b.Color && a.Discard == b.Discard
}

// comes asks whether just this comes of a run.
func comes(t *testing.T, stage int, text string, e api.Env, want api.Result) {
	t.Helper()
	if x, err := sense.Run(shader(t, stage, text), e); err != api.OK || !alike(x, want) {
		t.Errorf("%s\ncomes %v, %d; want %v", text, x, err, want)
	}
}

// paints asks whether a fragment shader leaves this colour, and nothing beside.
func paints(t *testing.T, text string, e api.Env, want api.Vec) {
	t.Helper()
	comes(t, fragment, text, e, api.Result{Color: want})
}

// refused asks whether Run answers this error, and nothing beside.
func refused(t *testing.T, c api.Checked, e api.Env, want api.Errno) {
	t.Helper()
	if x, err := sense.Run(c, e); err != want || !alike(x, api.Result{}) {
		text, _ := parse.Print(c.Tree)
		t.Errorf("%s\n%v, %d; want nothing, %d", text, x, err, want)
	}
}

// rows holds what the statements of a main leave in gl_FragColor against what is wanted.
func rows(t *testing.T, ahead string, e api.Env, want map[string]api.Vec) {
	t.Helper()
	for statements, v := range want {
		paints(t, ahead+"void main(){"+statements+"}", e, v)
	}
}

// P15.3: the chapter's examples.
func TestExamples(t *testing.T) {
	paints(t, "void main(){gl_FragColor=vec4(1.0,2.0,3.0,4.0).wzyx;}", api.Env{}, numbers(4, 3, 2, 1))
	paints(t, "uniform float u;void main(){gl_FragColor=vec4(u*2.0);}", api.Env{Uniforms: []api.Vec{numbers(3)}}, numbers(6, 6, 6, 6))
	paints(t, "void main(){int n=0;for(int i=1;i<4;i++){n+=i;}gl_FragColor=vec4(float(n/4));}", api.Env{}, numbers(1, 1, 1, 1))
	paints(t, "void main(){vec4 v;v.xy.y=1.0;gl_FragColor=v;}", api.Env{}, numbers(0, 1, 0, 0))
	comes(t, fragment, "void main(){if(true){discard;}gl_FragColor=vec4(1.0);}", api.Env{}, api.Result{Discard: true})
}
