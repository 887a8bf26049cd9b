package vm_test

import (
	"fmt"
	"strings"
	"testing"

	"paintbox/api"
	"paintbox/check"
	"paintbox/gen"
	"paintbox/parse"
	"paintbox/pre"
	"paintbox/sense"
	"paintbox/vm"
)

// shader answers the shader of a text.
func shader(t *testing.T, stage int, text string) api.Checked {
	t.Helper()
	l, spot := pre.Run(text)
	if spot != (api.Spot{}) {
		t.Fatalf("%s\nRun: %v", text, spot)
	}
	x, spot := parse.Parse(l)
	if spot != (api.Spot{}) {
		t.Fatalf("%s\nParse: %v", text, spot)
	}
	c, spot := check.Check(x, stage)
	if spot != (api.Spot{}) {
		t.Fatalf("%s\nCheck, stage %d: %v", text, stage, spot)
	}
	return c
}

// generated answers the code that gen makes of a shader.
func generated(t *testing.T, c api.Checked) api.Code {
	t.Helper()
	x, err := gen.Gen(c)
	if err != api.OK {
		t.Fatalf("Gen: %d", err)
	}
	return x
}

// means asks whether just that comes of a shader's code which comes of the shader.
func means(t *testing.T, text string, c api.Checked, x api.Code, e api.Env) api.Result {
	t.Helper()
	want, err := sense.Run(c, e)
	if err != api.OK || !sense.Fits(c, e) {
		t.Fatalf("%s\n%d", text, err)
	}
	if got, places := goes(t, x, e); !alike(got, want) || !vm.Same(got, want) || len(places) > len(x.Instrs) {
		t.Fatalf("%s\n%v\ncomes %v; want %v", text, e, got, want)
	}
	return want
}

// P18.1, P18.2: the chapters' shaders, by their codes.
func TestShaderRows(t *testing.T) {
	front := api.Env{Front: true, Coord: numbers(1, 2, 3, 4), Point: numbers(0.25, 0.75, 9, 9)}
	for text, want := range map[string]api.Result{
		"void main(){gl_FragColor=vec4(1.0,2.0,3.0,4.0).wzyx;}":                                                  {Color: numbers(4, 3, 2, 1)},
		"void main(){int n=0;for(int i=1;i<4;i++){n+=i;}gl_FragColor=vec4(float(n/4));}":                         {Color: numbers(1, 1, 1, 1)},
		"void main(){vec4 v;v.xy.y=1.0;gl_FragColor=v;}":                                                         {Color: numbers(0, 1)},
		"void main(){if(true){discard;}gl_FragColor=vec4(1.0);}":                                                 {Discard: true},
		"void main(){if(!gl_FrontFacing){discard;}gl_FragColor=gl_FragCoord*2.0;}":                               {Color: numbers(2, 4, 6, 8)},
		"void main(){gl_FragColor=vec4(gl_PointCoord,gl_FrontFacing,mix(1.0,3.0,0.5));}":                         {Color: numbers(0.25, 0.75, 1, 2)},
		"float f(float x){if(x>1.0)return x*x;return 1.0;}void main(){gl_FragColor=vec4(f(3.0),f(0.5),-7/2,0);}": {Color: numbers(9, 1, -3)},
		"void main(){}": {},
	} {
		c := shader(t, fragment, text)
		if got := means(t, text, c, generated(t, c), front); !alike(got, want) {
			t.Errorf("%s\nmeans %v; want %v", text, got, want)
		}
	}
	text := "attribute vec2 a;varying vec3 v,w;void main(){gl_Position=vec4(a,0.0,1.0);gl_PointSize=a.y;w=a.xyx;}"
	c := shader(t, vertex, text)
	want := api.Result{Position: numbers(5, 6, 0, 1), Size: 6 * one, Varyings: []api.Vec{{}, numbers(5, 6, 5)}}
	if got := means(t, text, c, generated(t, c), api.Env{Attribs: []api.Vec{numbers(5, 6, 7, 8)}}); !alike(got, want) {
		t.Errorf("%s\nmeans %v; want %v", text, got, want)
	}
}

// P18.1, P18.4: chance shaders of both stages in chance surroundings: what comes of their codes is what they mean.
func TestShaders(t *testing.T) {
	told := map[string]int{}
	for seed := range 1500 {
		w := &writer{chance: chance(seed), stage: 1 + seed%2}
		text := w.shader()
		c := shader(t, w.stage, text)
		if sense.Cost(c) > api.MaxCost {
			told["too much"]++
			continue
		}
		x := generated(t, c)
		for range 4 {
			switch got := means(t, text, c, x, w.around(c)); {
			case got.Discard:
				told["discarded"]++
			case got.Color != api.Vec{} || got.Position != api.Vec{}:
				told["painted"]++
			}
		}
	}
	if told["too much"] > 300 || told["discarded"] < 200 || told["painted"] < 3000 {
		t.Error(told)
	}
}

// word answers the word of a type.
func word(base, size int) string {
	if size == 1 {
		return []string{"float", "int", "bool"}[base-1]
	}
	return []string{"vec", "ivec", "bvec"}[base-1] + fmt.Sprint(size)
}

// writer writes shaders by chance. Each type has a variable (a and its word) and a uniform (u); one of each base has a function (f).
type writer struct {
	chance
	stage int
	given [3]string // the words of these, as soon as they are there
}

// shader writes a whole one.
func (w *writer) shader() string {
	text := "uniform sampler2D s;varying vec3 v;"
	if w.stage == vertex {
		text += "attribute vec4 t;"
	} else {
		text += "uniform vec4 t;"
	}
	for base := 1; base <= 3; base++ {
		for size := 1; size <= 4; size++ {
			kind := word(base, size)
			text += "uniform " + kind + " u" + kind + ";" + kind + " a" + kind + ";"
		}
	}
	for base := 1; base <= 3; base++ {
		kind := word(base, 1+w.below(4))
		text += kind + " f" + kind + "(" + kind + " x){" + w.statement(0) + "if(" + w.expr(3, 1, 1) + ")return x;return a" + kind + ";}"
		w.given[base-1] = kind
	}
	text += "void main(){"
	for range 2 + w.below(6) {
		text += w.statement(2)
	}
	tell := "vec4(" + w.expr(1, 1, 1) + "," + w.expr(1, 3, 2) + ")"
	if w.stage == fragment {
		return text + "gl_FragColor=" + tell + ";}"
	}
	return text + "gl_Position=" + tell + ";gl_PointSize=" + w.expr(1, 1, 1) + ";v=" + w.expr(1, 3, 1) + ";}"
}

// around answers surroundings that fit a shader; the sampler says images from -1 on.
func (w *writer) around(c api.Checked) api.Env {
	e := api.Env{Attribs: w.vectors(len(c.Attribs)), Uniforms: w.vectors(len(c.Uniforms)), Coord: w.vector(), Front: w.yes(2), Point: w.vector(), Images: pictures()}
	e.Uniforms[0][0] = api.Fix(w.below(7) - 1)
	if w.stage == fragment {
		e.Varyings = w.vectors(len(c.Varyings))
	}
	return e
}

// statement writes one.
func (w *writer) statement(depth int) string {
	base, size := 1+w.below(3), 1+w.below(4)
	if depth == 0 {
		return w.assign(base, size, 2) + ";"
	}
	switch w.below(6) {
	case 0:
		return "if(" + w.expr(3, 1, 2) + "){" + w.statement(depth-1) + "}else " + w.statement(depth-1)
	case 1:
		return fmt.Sprintf("for(int i=%d;i<%d;i++){%s aint+=i;}", w.below(3)-2, w.below(3), w.statement(depth-1))
	case 2:
		if w.stage == fragment && w.yes(2) {
			return "if(" + w.expr(3, 1, 1) + ")discard;"
		}
	}
	return w.assign(base, size, 3) + ";"
}

// field writes a field's name of n letters, of a type of that size; no place twice, if it is to be written.
func (w *writer) field(size, n int, once bool) string {
	row, name := w.of("xyzw", "rgba", "stpq")[:size], ""
	for len(name) < n {
		at := w.below(size)
		if letter := row[at : at+1]; !once || !strings.Contains(name, letter) {
			name += letter
		}
	}
	return "." + name
}

// assign writes an assignment to a variable, or to places of one.
func (w *writer) assign(base, size, depth int) string {
	place := "a" + word(base, size)
	if more := size + w.below(5-size); more > 1 {
		place = "a" + word(base, more) + w.field(more, size, true)
	}
	op := "="
	if base != api.BaseBool {
		op = w.of("=", "+=", "-=", "*=", "/=")
	}
	return place + op + w.expr(base, size, depth)
}

// expr writes an expression of a type.
func (w *writer) expr(base, size, depth int) string {
	kind := word(base, size)
	if depth == 0 {
		return w.of("a"+kind, "u"+kind, "u"+kind, kind+w.of("(1.5)", "(2)", "(true)", "(0.25)"))
	}
	e := func(base, size int) string { return w.expr(base, size, depth-1) }
	switch w.below(9) {
	case 0:
		return "(" + e(3, 1) + "?" + e(base, size) + ":" + e(base, size) + ")"
	case 1:
		return "(" + w.assign(base, size, depth-1) + ")"
	case 2:
		more := 2 + w.below(3)
		return e(base, more) + w.field(more, size, false)
	case 3:
		return kind + "(" + e(1+w.below(3), 1) + ")"
	case 4:
		return kind + "(" + e(1+w.below(3), size+w.below(5-size)) + ")"
	case 5:
		if w.given[base-1] == kind {
			return "f" + kind + "(" + e(base, size) + ")"
		}
	case 6:
		if base != api.BaseBool {
			return "(-" + e(base, size) + ")"
		}
	}
	switch {
	case base == api.BaseFloat && w.yes(2):
		return w.builtin(size, e)
	case base != api.BaseBool:
		return "(" + e(base, w.side(size)) + w.of("+", "-", "*", "/") + e(base, size) + ")"
	case size > 1:
		return kind + "(" + e(3, size-1) + "," + e(3, 2) + ".y)"
	}
	return w.truth(e)
}

// side tells the size of one side beside one of that size.
func (w *writer) side(size int) int {
	if w.yes(3) {
		return 1
	}
	return size
}

// truth writes a bool.
func (w *writer) truth(e func(base, size int) string) string {
	base, size := 1+w.below(3), 1+w.below(4)
	switch w.below(4) {
	case 0:
		return "(" + e(3, 1) + w.of("&&", "||") + e(3, 1) + ")"
	case 1:
		return "(!" + e(3, 1) + ")"
	case 2:
		return "(" + e(base, size) + w.of("==", "!=") + e(base, size) + ")"
	}
	base = 1 + w.below(2)
	return "(" + e(base, 1) + w.of("<", ">", "<=", ">=") + e(base, 1) + ")"
}

// builtin writes a call of a built-in function that gives floats.
func (w *writer) builtin(size int, e func(base, size int) string) string {
	one := func() string { return e(1, size) }
	beside := w.side(size)
	switch w.below(9) {
	case 0, 1, 2:
		return w.of("abs", "sign", "floor", "fract", "sqrt", "inversesqrt", "exp2", "log2", "sin", "cos", "normalize") + "(" + one() + ")"
	case 3:
		return w.of("min", "max", "mod") + "(" + one() + "," + e(1, beside) + ")"
	case 4:
		return "step(" + e(1, beside) + "," + one() + ")"
	case 5:
		return "mix(" + one() + "," + one() + "," + e(1, beside) + ")"
	case 6:
		return "clamp(" + one() + "," + e(1, beside) + "," + e(1, beside) + ")"
	case 7:
		return "pow(" + one() + "," + one() + ")"
	}
	switch size {
	case 1:
		more := 1 + w.below(4)
		return w.of("dot("+e(1, more)+","+e(1, more)+")", "length("+e(1, more)+")")
	case 3:
		return "cross(" + one() + "," + one() + ")"
	case 4:
		return "texture2D(s," + e(1, 2) + ")"
	}
	return "vec2(" + e(1, 1) + "," + e(1, 1) + ")"
}
