package gen_test

import (
	"fmt"
	"slices"
	"testing"

	"paintbox/api"
	"paintbox/code"
	"paintbox/gen"
	"paintbox/lex"
	"paintbox/parse"
	"paintbox/sense"
)

// chanceShaders tells chance shaders of both stages.
func chanceShaders(t *testing.T, from, n int, see func(w *writer, c api.Checked)) {
	t.Helper()
	for seed := range n {
		w := &writer{chance: chance(seed + from), stage: 1 + seed%2}
		text := w.shader()
		l, spot := lex.Lex(text)
		if _, wrong := parse.Parse(l); spot.Err != api.OK || wrong.Err != api.OK {
			continue // too long
		}
		see(w, shader(t, w.stage, text))
	}
}

// P17.1, P17.2: chance shaders in chance surroundings: each has a code that means it, or costs too much.
func TestChanceShaders(t *testing.T) {
	told := map[string]int{}
	chanceShaders(t, 0, 3500, func(w *writer, c api.Checked) {
		if sense.Cost(c) > api.MaxCost {
			told["too much"]++
			refused(t, c, api.ErrLong)
			return
		}
		told["taken"]++
		if sense.Cost(c) > api.MaxCost/2 {
			told["great"]++
		}
		x := generated(t, c)
		for range 6 {
			switch want := means(t, c, x, w.env(c)); {
			case want.Discard:
				told["discarded"]++
			case want.Color != api.Vec{} || want.Position != api.Vec{}:
				told["painted"]++
			}
		}
	})
	for what, least := range map[string]int{"too much": 150, "taken": 2500, "great": 400, "discarded": 500, "painted": 9000} {
		if told[what] < least {
			t.Errorf("%s: %d times", what, told[what])
		}
	}
}

// P17.2: the same shader has the same code, whatever was handed in between.
func TestSameAgain(t *testing.T) {
	between := shader(t, fragment, "uniform float u;float n=3.0;void main(){n+=u;gl_FragColor=vec4(n);}")
	chanceShaders(t, 1<<20, 500, func(w *writer, c api.Checked) {
		x, err := gen.Gen(c)
		gen.Gen(between)
		for range 3 {
			if y, wrong := gen.Gen(copied(c)); wrong != err || !code.Same(x, y) {
				t.Fatalf("%s\n%v, %d\n%v, %d", written(c), x, err, y, wrong)
			}
		}
	})
}

// P17.1: what is answered is new memory: no two answers share any.
func TestNewMemory(t *testing.T) {
	chanceShaders(t, 1<<21, 100, func(w *writer, c api.Checked) {
		x, _ := gen.Gen(c)
		y, _ := gen.Gen(c)
		first := slices.Clone(x.Instrs)
		for i := range x.Instrs {
			x.Instrs[i] = api.Instr{Op: 77}
		}
		x.Instrs = append(x.Instrs, api.Instr{Op: 78})
		z, _ := gen.Gen(c)
		if !slices.Equal(y.Instrs, first) || !slices.Equal(z.Instrs, first) {
			t.Fatal(written(c))
		}
	})
}

// roomy answers a list with room behind its end, and a mark there.
func roomy[T any](l []T, mark T) []T {
	return append(slices.Clone(l), mark)[:len(l)]
}

// P17.1: what is handed in is not changed, nor the room behind a list's end.
func TestNotChanged(t *testing.T) {
	chanceShaders(t, 1<<22, 300, func(w *writer, c api.Checked) {
		d := copied(c)
		for i := range d.Tree.Nodes {
			d.Tree.Nodes[i].Kids = roomy(d.Tree.Nodes[i].Kids, 77)
		}
		d.Tree.Nodes = roomy(d.Tree.Nodes, api.Node{Kind: 77})
		d.Types, d.Uses, d.Fns = roomy(d.Types, api.Type{Base: 77}), roomy(d.Uses, 77), roomy(d.Fns, 77)
		d.Attribs, d.Uniforms, d.Varyings = roomy(d.Attribs, 77), roomy(d.Uniforms, 77), roomy(d.Varyings, 77)
		gen.Gen(d)
		if fmt.Sprint(d) != fmt.Sprint(c) {
			t.Fatalf("%v\nhas become\n%v", c, d)
		}
		n := len(d.Tree.Nodes)
		kept := d.Tree.Nodes[:n+1][n].Kind == 77 && d.Types[:n+1][n].Base == 77 && d.Uses[:n+1][n] == 77 && d.Fns[:n+1][n] == 77
		for _, l := range [][]int{d.Attribs, d.Uniforms, d.Varyings} {
			kept = kept && l[:len(l)+1][len(l)] == 77
		}
		for _, node := range d.Tree.Nodes {
			kept = kept && node.Kids[:len(node.Kids)+1][len(node.Kids)] == 77
		}
		if !kept {
			t.Fatal("the room behind a list's end has changed")
		}
	})
}

// P17.1: a code stays what it is when what was handed in changes later.
func TestNotKept(t *testing.T) {
	chanceShaders(t, 1<<23, 100, func(w *writer, c api.Checked) {
		d := copied(c)
		x, _ := gen.Gen(d)
		first := fmt.Sprint(x)
		for i := range d.Tree.Nodes {
			d.Tree.Nodes[i].Num++
			clear(d.Tree.Nodes[i].Kids)
		}
		clear(d.Types)
		clear(d.Uses)
		clear(d.Fns)
		if fmt.Sprint(x) != first {
			t.Fatal(written(c))
		}
	})
}

// P17.1: codes go from their bytes to what they mean as well.
func TestThroughBytes(t *testing.T) {
	chanceShaders(t, 1<<24, 300, func(w *writer, c api.Checked) {
		if sense.Cost(c) > api.MaxCost {
			return
		}
		b, _ := code.Encode(generated(t, c))
		x, err := code.Decode(b)
		if err != api.OK {
			t.Fatal(err)
		}
		means(t, c, x, w.env(c))
	})
}
