package gen_test

import (
	"slices"
	"testing"

	"paintbox/api"
	"paintbox/check"
	"paintbox/sense"
)

// copied answers a Checked of its own memory.
func copied(c api.Checked) api.Checked {
	c.Tree.Nodes = slices.Clone(c.Tree.Nodes)
	for i := range c.Tree.Nodes {
		c.Tree.Nodes[i].Kids = slices.Clone(c.Tree.Nodes[i].Kids)
	}
	c.Types, c.Uses, c.Fns = slices.Clone(c.Types), slices.Clone(c.Uses), slices.Clone(c.Fns)
	c.Attribs, c.Uniforms, c.Varyings = slices.Clone(c.Attribs), slices.Clone(c.Uniforms), slices.Clone(c.Varyings)
	return c
}

// spoiling answers what makes of a Checked one that Check does not tell of its tree and stage: in a value, in a length, at each node.
func spoiling(c api.Checked) []func(*api.Checked) {
	l := []func(*api.Checked){
		func(c *api.Checked) { *c = api.Checked{} },
		func(c *api.Checked) { c.Stage = 0 },
		func(c *api.Checked) { c.Stage = 3 },
		func(c *api.Checked) { c.Stage = vertex + fragment - c.Stage },
		func(c *api.Checked) { c.Main++ },
		func(c *api.Checked) { c.Main = 0 },
		func(c *api.Checked) { c.Main = -1 },
		func(c *api.Checked) { c.Main = 1 << 40 },
		func(c *api.Checked) { c.Types = c.Types[:len(c.Types)-1] },
		func(c *api.Checked) { c.Types = nil },
		func(c *api.Checked) { c.Types = append(c.Types, api.Type{}) },
		func(c *api.Checked) { c.Uses = c.Uses[:len(c.Uses)-1] },
		func(c *api.Checked) { c.Uses = nil },
		func(c *api.Checked) { c.Uses = append(c.Uses, -1) },
		func(c *api.Checked) { c.Fns = c.Fns[:len(c.Fns)-1] },
		func(c *api.Checked) { c.Fns = nil },
		func(c *api.Checked) { c.Fns = append(c.Fns, 0) },
		func(c *api.Checked) { c.Tree.Nodes = c.Tree.Nodes[:len(c.Tree.Nodes)-1] },
		func(c *api.Checked) { c.Tree.Nodes = append(c.Tree.Nodes, api.Node{Kind: api.NodeEmpty}) },
		func(c *api.Checked) { c.Tree.Nodes = nil },
		func(c *api.Checked) { c.Tree.Nodes[0].Kids = nil },
		func(c *api.Checked) { c.Tree.Nodes[0].Kids = []int{0} },
		func(c *api.Checked) { c.Attribs = append(c.Attribs, 2) },
		func(c *api.Checked) { c.Uniforms = append(c.Uniforms, 2) },
		func(c *api.Checked) { c.Varyings = append(c.Varyings, 2) },
	}
	for _, list := range []func(*api.Checked) *[]int{
		func(c *api.Checked) *[]int { return &c.Attribs },
		func(c *api.Checked) *[]int { return &c.Uniforms },
		func(c *api.Checked) *[]int { return &c.Varyings },
	} {
		for i := range *list(&c) {
			l = append(l, func(c *api.Checked) { (*list(c))[i]++ }, func(c *api.Checked) { (*list(c))[i] = -1 }, func(c *api.Checked) { x := list(c); *x = slices.Delete(*x, i, i+1) })
		}
	}
	for i := range c.Tree.Nodes {
		l = append(l,
			func(c *api.Checked) { c.Types[i].Base++ },
			func(c *api.Checked) { c.Types[i].Size = 5 },
			func(c *api.Checked) { c.Uses[i] = i },
			func(c *api.Checked) { c.Uses[i] = -99 },
			func(c *api.Checked) { c.Uses[i] = 1 << 40 },
			func(c *api.Checked) { c.Fns[i]++ },
			func(c *api.Checked) { c.Tree.Nodes[i].Kind = 0 },
			func(c *api.Checked) { c.Tree.Nodes[i].Kind = 99 },
			func(c *api.Checked) { c.Tree.Nodes[i].At = -1 },
			func(c *api.Checked) { c.Tree.Nodes[i].Num = -1 },
			func(c *api.Checked) { c.Tree.Nodes[i].Kids = append(c.Tree.Nodes[i].Kids, 1) },
			func(c *api.Checked) { c.Tree.Nodes[i].Kids = append(c.Tree.Nodes[i].Kids, -7) },
		)
	}
	return l
}

// P17.1: a Checked that Check would not tell so, with each of its parts changed alone.
func TestNotTold(t *testing.T) {
	for stage, text := range map[int]string{
		vertex:   "attribute float p,q;uniform float u,w;varying float v;const float k=2.0;float f(float a){return a*k;}void main(){gl_PointSize=f(p)+u;v=1.0;for(int i=-1;i<2;i++){v+=k;}}",
		fragment: "uniform sampler2D s;const int k=2;float g(vec2 a,bool b){return b?a.x:-1.5;}varying vec2 v;void main(){for(int i=-1;i<3;i++){int i=i+k;}if(gl_FrontFacing&&true)discard;else;vec4 c=texture2D(s,v);c.x+=g(c.xy,false);gl_FragColor=vec4(gl_FragCoord.xy,c);return;}",
	} {
		c := shader(t, stage, text)
		for k, spoil := range spoiling(c) {
			d := copied(c)
			spoil(&d)
			if check.Same(c, d) {
				t.Fatalf("%d has not spoilt it", k)
			}
			if told, spot := check.Check(d.Tree, d.Stage); spot.Err == api.OK && check.Same(told, d) {
				t.Fatalf("%d is told so", k)
			}
			refused(t, d, api.ErrArg)
		}
		generated(t, copied(c))
	}
}

// P17.1: a tree that Check refuses, with what it tells of another one.
func TestNotTaken(t *testing.T) {
	c := shader(t, fragment, "float a,b;void main(){a=1.0;gl_FragColor=vec4(a);}")
	at := slices.IndexFunc(c.Tree.Nodes, func(n api.Node) bool { return n.Kind == api.NodeName })
	for _, text := range []string{"b", "c", "abs", "main", "gl_FragCoord", "gl_FragColor", "", "float"} {
		d := copied(c)
		d.Tree.Nodes[at].Text = text
		refused(t, d, api.ErrArg)
	}
	// Another number, and other places, are another shader that Check tells so.
	d := copied(c)
	d.Tree.Nodes[at+1].Num = 5 * one
	for i := range d.Tree.Nodes {
		d.Tree.Nodes[i].At = 77 - i
	}
	if x := obeyed(t, generated(t, d), api.Env{}); !alike(x, api.Result{Color: numbers(5, 5, 5, 5)}) {
		t.Error(x)
	}
	// Nil and empty lists are one.
	d = copied(c)
	d.Attribs, d.Uniforms, d.Varyings = []int{}, []int{}, []int{}
	for i := range d.Tree.Nodes {
		d.Tree.Nodes[i].Kids = append([]int{}, d.Tree.Nodes[i].Kids...)
	}
	if x := obeyed(t, generated(t, d), api.Env{}); !alike(x, api.Result{Color: numbers(1, 1, 1, 1)}) {
		t.Error(x)
	}
}

// P17.1: ErrArg goes ahead of ErrLong.
func TestArgAheadOfLong(t *testing.T) {
	const text = "uniform float u;varying float v;void main(){for(int i=0;i<64;i++)for(int k=0;k<64;k++);"
	for stage, last := range map[int]string{vertex: "gl_PointSize=u;}", fragment: "gl_FragColor.x=u;}"} {
		c := shader(t, stage, text+last)
		if sense.Cost(c) <= api.MaxCost {
			t.Fatal(sense.Cost(c))
		}
		refused(t, c, api.ErrLong)
		for _, spoil := range spoiling(c) {
			d := copied(c)
			spoil(&d)
			refused(t, d, api.ErrArg)
		}
	}
}
