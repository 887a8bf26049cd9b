package sense_test

import (
	"fmt"
	"slices"
	"strings"
	"testing"

	"paintbox/api"
	"paintbox/lex"
	"paintbox/parse"
	"paintbox/sense"
)

// chanceRuns answers chance shaders that are run, and surroundings that fit them.
func chanceRuns(t *testing.T, n int, see func(c api.Checked, e api.Env)) {
	t.Helper()
	for seed := range n {
		w := &writer{chance: chance(seed + 1<<20), stage: 1 + seed%2}
		text := w.shader()
		l, spot := lex.Lex(text)
		if _, wrong := parse.Parse(l); spot.Err != api.OK || wrong.Err != api.OK {
			continue
		}
		c := shader(t, w.stage, text)
		if sense.Cost(c) <= api.MaxSteps {
			see(c, w.env(c))
		}
	}
}

// P15.4: a run tells the same again, whatever was run in between, and wherever the nodes stand.
func TestSameAgain(t *testing.T) {
	between := shader(t, fragment, "uniform float u;float n=3.0;void main(){n+=u;gl_FragColor=vec4(n);}")
	chanceRuns(t, 400, func(c api.Checked, e api.Env) {
		want, _ := sense.Run(c, e)
		if x, err := sense.Run(between, api.Env{Uniforms: []api.Vec{numbers(2)}}); err != api.OK || x.Color != numbers(5, 5, 5, 5) {
			t.Fatal(x, err)
		}
		d := copied(c)
		for i := range d.Tree.Nodes {
			d.Tree.Nodes[i].At = 7 * i
		}
		for range 2 {
			x, err := sense.Run(c, e)
			y, wrong := sense.Run(d, e)
			if err != api.OK || wrong != api.OK || !alike(x, want) || !alike(y, want) || sense.Cost(c) != sense.Cost(d) {
				t.Fatalf("%v, %v; want %v", x, y, want)
			}
		}
	})
}

// P15.4: what parse.Print writes means the same.
func TestPrinted(t *testing.T) {
	chanceRuns(t, 200, func(c api.Checked, e api.Env) {
		text, _ := parse.Print(c.Tree)
		want, _ := sense.Run(c, e)
		if d := shader(t, c.Stage, text); sense.Cost(d) != sense.Cost(c) {
			t.Fatal(text)
		}
		comes(t, c.Stage, text, e, want)
	})
}

// same tells whether two surroundings are the same, byte by byte.
func same(a, b api.Env) bool {
	levels := func(x, y api.Level) bool { return x.W == y.W && x.H == y.H && slices.Equal(x.Bytes, y.Bytes) }
	images := func(x, y api.Image) bool {
		return x.Format == y.Format && x.WrapS == y.WrapS && x.WrapT == y.WrapT && x.Min == y.Min && x.Mag == y.Mag && slices.EqualFunc(x.Levels, y.Levels, levels)
	}
	return slices.Equal(a.Attribs, b.Attribs) && slices.Equal(a.Uniforms, b.Uniforms) && slices.Equal(a.Varyings, b.Varyings) && a.Coord == b.Coord && a.Front == b.Front && a.Point == b.Point && slices.EqualFunc(a.Images, b.Images, images)
}

// roomy answers a list with room behind its end, and a mark there.
func roomy[T any](l []T, mark T) []T {
	return append(slices.Clone(l), mark)[:len(l)]
}

// P15.2, P15.3: what is handed in is not changed, nor the room behind a list's end.
func TestNotChanged(t *testing.T) {
	mark := api.Vec{1, 2, 3, 4}
	chanceRuns(t, 300, func(c api.Checked, e api.Env) {
		d, f := copied(c), e
		for i := range d.Tree.Nodes {
			d.Tree.Nodes[i].Kids = roomy(d.Tree.Nodes[i].Kids, 77)
		}
		d.Tree.Nodes = roomy(d.Tree.Nodes, api.Node{Kind: 77})
		d.Types, d.Uses, d.Fns = roomy(d.Types, api.Type{Base: 77}), roomy(d.Uses, 77), roomy(d.Fns, 77)
		d.Attribs, d.Uniforms, d.Varyings = roomy(d.Attribs, 77), roomy(d.Uniforms, 77), roomy(d.Varyings, 77)
		f.Attribs, f.Uniforms, f.Varyings, f.Images = roomy(e.Attribs, mark), roomy(e.Uniforms, mark), roomy(e.Varyings, mark), roomy(e.Images, api.Image{Format: 77})
		for i := range f.Images {
			f.Images[i].Levels = roomy(f.Images[i].Levels, api.Level{W: 77})
		}
		sense.Run(d, f)
		sense.Fits(d, f)
		sense.Cost(d)
		for node := range min(9, len(d.Tree.Nodes)) {
			sense.Value(d, node)
		}
		if fmt.Sprint(d) != fmt.Sprint(c) || !same(e, f) {
			t.Fatalf("%v\nhas become\n%v", e, f)
		}
		n := len(d.Tree.Nodes)
		kept := d.Tree.Nodes[:n+1][n].Kind == 77 && d.Types[:n+1][n].Base == 77 && d.Uses[:n+1][n] == 77 && d.Fns[:n+1][n] == 77
		for _, l := range [][]int{d.Attribs, d.Uniforms, d.Varyings} {
			kept = kept && l[:len(l)+1][len(l)] == 77
		}
		for _, node := range d.Tree.Nodes {
			kept = kept && node.Kids[:len(node.Kids)+1][len(node.Kids)] == 77
		}
		for _, l := range [][]api.Vec{f.Attribs, f.Uniforms, f.Varyings} {
			kept = kept && l[:len(l)+1][len(l)] == mark
		}
		for _, x := range f.Images {
			kept = kept && x.Levels[:len(x.Levels)+1][len(x.Levels)].W == 77
		}
		if m := len(f.Images); !kept || f.Images[:m+1][m].Format != 77 {
			t.Fatal("the room behind a list's end has changed")
		}
	})
}

// P15.3: what is answered is new memory: each answer's varyings are its own, and nothing that was handed in.
func TestNewMemory(t *testing.T) {
	c := shader(t, vertex, "attribute vec4 p;varying vec4 v,w;void main(){v=p;w=p*2.0;}")
	e := api.Env{Attribs: []api.Vec{marked()}}
	a, _ := sense.Run(c, e)
	b, _ := sense.Run(c, e)
	first := slices.Clone(a.Varyings)
	a.Varyings[0], a.Varyings[1] = api.Vec{}, api.Vec{}
	d, err := sense.Run(c, e)
	if err != api.OK || !slices.Equal(b.Varyings, first) || !slices.Equal(d.Varyings, first) || e.Attribs[0] != marked() || len(first) != 2 {
		t.Error(a, b, d, err)
	}
	b.Varyings[0] = numbers(9)
	e.Attribs[0] = numbers(1)
	if !slices.Equal(d.Varyings, first) {
		t.Error(d)
	}
}

// P15.4: runs end, and none panics: of loops in loops, of functions that call many, of expressions as deep as may be.
func TestEnds(t *testing.T) {
	deep := strings.Repeat("-(", 24) + "1.0" + strings.Repeat(")", 24)
	paints(t, "void main(){gl_FragColor.x="+deep+";}", api.Env{}, numbers(1))
	chain := "float f0(float a){return a+1.0;}"
	for i := range 80 {
		chain += fmt.Sprintf("float f%d(float a){return f%d(a)+1.0;}", i+1, i)
	}
	paints(t, chain+"void main(){gl_FragColor.x=f80(1.0);}", api.Env{}, numbers(82))
	paints(t, doubled(12)+"void main(){f12();gl_FragColor.x=1.0;}", api.Env{}, numbers(1))
	comes(t, fragment, chain+"float e(){discard;}void main(){gl_FragColor.x=f80(f80(e()));}", api.Env{}, api.Result{Discard: true})
}
