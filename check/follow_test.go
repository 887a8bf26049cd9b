package check_test

import (
	"slices"
	"testing"

	"paintbox/api"
	"paintbox/check"
	"paintbox/kinds"
	"paintbox/parse"
)

// shaders are chance shaders that are taken, and their stages.
func shaders(t *testing.T, n int) []api.Checked {
	t.Helper()
	l := []api.Checked{passes(t, fragment, every)}
	for seed := 0; len(l) < n; seed++ {
		w := &writer{chance: chance(seed), stage: 1 + seed%2}
		tokens, _ := lexed(w.shader())
		if x, spot := parse.Parse(tokens); spot == (api.Spot{}) && len(x.Nodes) > 40 {
			c, spot := check.Check(x, w.stage)
			if spot != (api.Spot{}) {
				t.Fatal(spot)
			}
			l = append(l, c)
		}
	}
	return l
}

// P14.4: a shader that is taken is taken whatever its places are, with the same Types, Uses and Fns.
func TestOtherPlaces(t *testing.T) {
	for _, c := range shaders(t, 200) {
		for _, place := range []func(int) int{
			func(i int) int { return 0 },
			func(i int) int { return 1<<62 - i },
			func(i int) int { return i * 7919 % 101 },
		} {
			x := api.Tree{Nodes: slices.Clone(c.Tree.Nodes)}
			for i := range x.Nodes {
				x.Nodes[i].At = place(i)
			}
			d, spot := check.Check(x, c.Stage)
			if spot != (api.Spot{}) || !slices.Equal(c.Types, d.Types) || !slices.Equal(c.Uses, d.Uses) || !slices.Equal(c.Fns, d.Fns) || !sameTree(d.Tree, x) {
				t.Fatal(spot)
			}
			if check.Same(c, d) {
				t.Fatal("the same, at other places")
			}
			d.Tree = c.Tree
			if !check.Same(c, d) {
				t.Fatal("not the same but for places")
			}
		}
	}
}

// P14.4: blanks, comments and parentheses change nothing but places.
func TestBlanks(t *testing.T) {
	a := passes(t, vertex, "float a;void main(){a=a*2.0;}")
	b := passes(t, vertex, "float /* here */ a ;\n\nvoid main ( ) { ( a ) = ( ( a ) * ( 2.0 ) ) ; } // there")
	if !slices.Equal(a.Types, b.Types) || !slices.Equal(a.Uses, b.Uses) || !slices.Equal(a.Fns, b.Fns) || check.Same(a, b) {
		t.Error("blanks")
	}
	text, _ := parse.Print(a.Tree)
	c := passes(t, vertex, text)
	c.Tree = a.Tree
	if !check.Same(a, c) {
		t.Error(text)
	}
}

// P14.4: each NodeName's Uses is a node ahead of it that has its name, or a built-in variable of the stage; a NodeCall's a NodeFunc ahead of it.
func TestUsesAhead(t *testing.T) {
	for _, c := range shaders(t, 300) {
		for i, n := range c.Tree.Nodes {
			use := c.Uses[i]
			switch {
			case n.Kind == api.NodeName && use < 0:
				built, kind, is := check.Builtin(n.Text, c.Stage)
				if built != use || kind != c.Types[i] || !is {
					t.Fatal(i, n.Text, use)
				}
			case n.Kind == api.NodeName:
				if m := c.Tree.Nodes[use]; use >= i || m.Text != n.Text || c.Types[use] != c.Types[i] || m.Kind != api.NodeVar && m.Kind != api.NodeParam && m.Kind != api.NodeFor {
					t.Fatal(i, n.Text, use)
				}
			case n.Kind == api.NodeCall && c.Fns[i] == 0:
				if m := c.Tree.Nodes[use]; use >= i || m.Text != n.Text || m.Kind != api.NodeFunc || c.Types[use] != c.Types[i] {
					t.Fatal(i, n.Text, use)
				}
			case use != -1:
				t.Fatal(i, use)
			}
		}
	}
}

// P14.4: all that is walked as an expression has a type that may be; statements and declarations are void.
func TestTypesMayBe(t *testing.T) {
	for _, c := range shaders(t, 300) {
		for i, n := range c.Tree.Nodes {
			if _, err := kinds.Word(c.Types[i]); err != api.OK {
				t.Fatal(i, c.Types[i])
			}
			expr := n.Kind >= api.NodeAssign
			named := n.Kind == api.NodeVar || n.Kind == api.NodeParam || n.Kind == api.NodeFor || n.Kind == api.NodeFunc
			if !expr && !named && c.Types[i] != (api.Type{}) || expr && n.Kind != api.NodeCall && c.Types[i] == (api.Type{}) {
				t.Fatal(i, kindNames[n.Kind], c.Types[i])
			}
		}
	}
}

// roomy answers a tree whose lists have room behind their ends, with marks there.
func roomy(x api.Tree) api.Tree {
	nodes := make([]api.Node, len(x.Nodes), len(x.Nodes)+1)
	copy(nodes, x.Nodes)
	for i := range nodes {
		kids := make([]int, len(nodes[i].Kids), len(nodes[i].Kids)+1)
		copy(kids, nodes[i].Kids)
		kids[:cap(kids)][len(kids)] = 77
		nodes[i].Kids = kids
	}
	nodes[:cap(nodes)][len(nodes)].Text = "mark"
	return api.Tree{Nodes: nodes}
}

// untouched asks whether a tree is as it was, and so is the room behind its lists.
func untouched(t *testing.T, x, was api.Tree) {
	t.Helper()
	if !sameTree(x, was) || x.Nodes[:cap(x.Nodes)][len(x.Nodes)].Text != "mark" {
		t.Error("the tree was changed")
	}
	for _, n := range x.Nodes {
		if n.Kids[:cap(n.Kids)][len(n.Kids)] != 77 {
			t.Error("the room behind kids was changed")
		}
	}
}

// P14.1, P14.3 (R3): what is handed in is neither changed nor kept; what is answered is new.
func TestMemory(t *testing.T) {
	for _, text := range []string{every, "void main(){int a=1.0;}", "void f(){}"} {
		was := tree(t, text)
		x := roomy(was)
		c, _ := check.Check(x, fragment)
		untouched(t, x, was)
		for i := range c.Tree.Nodes {
			check.Constant(c, i)
			check.Writable(c, i)
		}
		check.Same(c, c)
		d := copied(c)
		for i := range x.Nodes {
			for k := range x.Nodes[i].Kids {
				x.Nodes[i].Kids[k] = -1
			}
			x.Nodes[i] = api.Node{}
		}
		if !check.Same(c, d) {
			t.Error("what was told shares memory with what was handed in")
		}
	}
}

// P14.3 (R3): Constant, Writable and Same change nothing that they are handed.
func TestAskedUnchanged(t *testing.T) {
	c := passes(t, fragment, every)
	c.Tree = roomy(c.Tree)
	was := copied(c)
	for i := range c.Tree.Nodes {
		check.Constant(c, i)
		check.Writable(c, i)
	}
	check.Same(c, was)
	if !check.Same(c, was) {
		t.Error("changed")
	}
	untouched(t, c.Tree, was.Tree)
}

// P14.1 (R3): no two lists of one answer share memory, and no two answers.
func TestListsApart(t *testing.T) {
	text := "attribute float p,q;uniform float u,w;varying float v,z;float f(float a,float b){return a+b;}void main(){gl_PointSize=f(p,q);}"
	first, second := passes(t, vertex, text), passes(t, vertex, text)
	want := copied(first)
	lists := [][]int{second.Uses, second.Fns, second.Attribs, second.Uniforms, second.Varyings}
	for i := range second.Tree.Nodes {
		lists = append(lists, second.Tree.Nodes[i].Kids)
	}
	for i, l := range lists {
		full := l[:cap(l)]
		for k := range full {
			full[k] = 1000 + i
		}
	}
	for i, l := range lists {
		for _, x := range l {
			if x != 1000+i {
				t.Errorf("list %d shares memory", i)
			}
		}
	}
	clear(second.Types)
	clear(second.Tree.Nodes)
	if !check.Same(first, want) || !check.Same(first, passes(t, vertex, text)) {
		t.Error("two answers share memory")
	}
}

// P14.1 (R5): the same shader is told the same, whatever was asked between.
func TestAgain(t *testing.T) {
	for _, c := range shaders(t, 60) {
		for _, stage := range []int{fragment, vertex, 0, c.Stage} {
			check.Check(c.Tree, stage)
		}
		d, spot := check.Check(c.Tree, c.Stage)
		if spot != (api.Spot{}) || !check.Same(c, d) {
			t.Fatal(spot)
		}
	}
}
