package sense_test

import (
	"slices"
	"testing"

	"paintbox/api"
	"paintbox/check"
	"paintbox/sense"
)

// copied answers a Checked of its own memory.
func copied(c api.Checked) api.Checked {
	c.Tree.Nodes = slices.Clone(c.Tree.Nodes)
	for i := range c.Tree.Nodes {
		c.Tree.Nodes[i].Kids = slices.Clone(c.Tree.Nodes[i].Kids)
	}
	c.Types, c.Uses, c.Fns = slices.Clone(c.Types), slices.Clone(c.Uses), slices.Clone(c.Fns)
	c.Attribs, c.Uniforms, c.Varyings = slices.Clone(c.Attribs), slices.Clone(c.Uniforms), slices.Clone(c.Varyings)
	return c
}

// spoiling answers what makes of a Checked one that Check does not tell of its tree and stage: in a value, in a length, at each node.
func spoiling(c api.Checked) []func(*api.Checked) {
	l := []func(*api.Checked){
		func(c *api.Checked) { *c = api.Checked{} },
		func(c *api.Checked) { c.Stage = 0 },
		func(c *api.Checked) { c.Stage = 3 },
		func(c *api.Checked) { c.Stage = vertex + fragment - c.Stage },
		func(c *api.Checked) { c.Main++ },
		func(c *api.Checked) { c.Main = 0 },
		func(c *api.Checked) { c.Main = -1 },
		func(c *api.Checked) { c.Main = 1 << 40 },
		func(c *api.Checked) { c.Types = c.Types[:len(c.Types)-1] },
		func(c *api.Checked) { c.Types = nil },
		func(c *api.Checked) { c.Types = append(c.Types, api.Type{}) },
		func(c *api.Checked) { c.Uses = c.Uses[:len(c.Uses)-1] },
		func(c *api.Checked) { c.Uses = nil },
		func(c *api.Checked) { c.Uses = append(c.Uses, -1) },
		func(c *api.Checked) { c.Fns = c.Fns[:len(c.Fns)-1] },
		func(c *api.Checked) { c.Fns = nil },
		func(c *api.Checked) { c.Fns = append(c.Fns, 0) },
		func(c *api.Checked) { c.Tree.Nodes = c.Tree.Nodes[:len(c.Tree.Nodes)-1] },
		func(c *api.Checked) { c.Tree.Nodes = append(c.Tree.Nodes, api.Node{Kind: api.NodeEmpty}) },
		func(c *api.Checked) { c.Tree.Nodes = nil },
		func(c *api.Checked) { c.Tree.Nodes[0].Kids = nil },
		func(c *api.Checked) { c.Tree.Nodes[0].Kids = []int{0} },
		func(c *api.Checked) { c.Attribs = append(c.Attribs, 2) },
		func(c *api.Checked) { c.Uniforms = append(c.Uniforms, 2) },
		func(c *api.Checked) { c.Varyings = append(c.Varyings, 2) },
	}
	for _, list := range []func(*api.Checked) *[]int{
		func(c *api.Checked) *[]int { return &c.Attribs },
		func(c *api.Checked) *[]int { return &c.Uniforms },
		func(c *api.Checked) *[]int { return &c.Varyings },
	} {
		for i := range *list(&c) {
			l = append(l, func(c *api.Checked) { (*list(c))[i]++ }, func(c *api.Checked) { (*list(c))[i] = -1 }, func(c *api.Checked) { x := list(c); *x = slices.Delete(*x, i, i+1) })
		}
	}
	for i := range c.Tree.Nodes {
		l = append(l,
			func(c *api.Checked) { c.Types[i].Base++ },
			func(c *api.Checked) { c.Types[i].Size = 5 },
			func(c *api.Checked) { c.Uses[i] = i },
			func(c *api.Checked) { c.Uses[i] = -99 },
			func(c *api.Checked) { c.Uses[i] = 1 << 40 },
			func(c *api.Checked) { c.Fns[i]++ },
			func(c *api.Checked) { c.Tree.Nodes[i].Kind = 0 },
			func(c *api.Checked) { c.Tree.Nodes[i].Kind = 99 },
			func(c *api.Checked) { c.Tree.Nodes[i].At = -1 },
			func(c *api.Checked) { c.Tree.Nodes[i].Num = -1 },
			func(c *api.Checked) { c.Tree.Nodes[i].Kids = append(c.Tree.Nodes[i].Kids, 1) },
			func(c *api.Checked) { c.Tree.Nodes[i].Kids = append(c.Tree.Nodes[i].Kids, -7) },
		)
	}
	return l
}

// P15.2, P15.3: of a Checked that Check would not tell so there is no cost, it fits nothing, has no values, and is not run.
func TestNotTold(t *testing.T) {
	for stage, text := range map[int]string{
		vertex:   "attribute float p,q;uniform float u,w;varying float v;const float k=2.0;float f(float a){return a*k;}void main(){gl_PointSize=f(p)+u;v=1.0;for(int i=-1;i<2;i++){v+=k;}}",
		fragment: "uniform sampler2D s;const int k=2;float g(vec2 a,bool b){return b?a.x:-1.5;}varying vec2 v;void main(){for(int i=-1;i<3;i++){int i=i+k;}if(gl_FrontFacing&&true)discard;else;vec4 c=texture2D(s,v);c.x+=g(c.xy,false);gl_FragColor=vec4(gl_FragCoord.xy,c);return;}",
	} {
		c := shader(t, stage, text)
		e := api.Env{Attribs: make([]api.Vec, len(c.Attribs)), Uniforms: make([]api.Vec, len(c.Uniforms)), Front: false}
		if stage == fragment {
			e.Varyings = make([]api.Vec, 1)
		}
		constant := slices.IndexFunc(c.Tree.Nodes, func(n api.Node) bool { return n.Kind == api.NodeVar && n.Text == "k" }) + 1
		for k, spoil := range spoiling(c) {
			d := copied(c)
			spoil(&d)
			if check.Same(c, d) {
				t.Fatalf("%d has not spoilt it", k)
			}
			x, err := sense.Run(d, e)
			v, wrong := sense.Value(d, constant)
			if sense.Cost(d) != 0 || sense.Fits(d, e) || err != api.ErrArg || !alike(x, api.Result{}) || wrong != api.ErrArg || v != (api.Vec{}) {
				t.Errorf("stage %d, spoilt by %d: Cost %d, Fits %v, Run %v, %d, Value %v, %d", stage, k, sense.Cost(d), sense.Fits(d, e), x, err, v, wrong)
			}
		}
		d := copied(c)
		_, err := sense.Run(d, e)
		_, wrong := sense.Value(d, constant)
		if sense.Cost(d) == 0 || !sense.Fits(d, e) || err != api.OK || wrong != api.OK {
			t.Errorf("stage %d: Cost %d, Fits %v, Run %d, Value %d", stage, sense.Cost(d), sense.Fits(d, e), err, wrong)
		}
	}
}

// P15.2, P15.3: a tree that Check refuses, with what it tells of another one.
func TestNotTaken(t *testing.T) {
	c := shader(t, fragment, "float a,b;void main(){a=1.0;gl_FragColor=vec4(a);}")
	at := slices.IndexFunc(c.Tree.Nodes, func(n api.Node) bool { return n.Kind == api.NodeName })
	for text, told := range map[string]bool{"a": true, "b": false, "c": false, "abs": false, "main": false, "gl_FragCoord": false, "gl_FragColor": false} {
		d := copied(c)
		d.Tree.Nodes[at].Text = text
		_, err := sense.Run(d, api.Env{})
		_, wrong := sense.Value(d, at+1)
		if (err == api.OK) != told || (wrong == api.OK) != told || (sense.Cost(d) != 0) != told || sense.Fits(d, api.Env{}) != told {
			t.Errorf("%s: %d, %d, %d", text, err, wrong, sense.Cost(d))
		}
	}
	// Another number, and other places, are another shader that Check tells so.
	d := copied(c)
	d.Tree.Nodes[at+1].Num = 5 * one
	for i := range d.Tree.Nodes {
		d.Tree.Nodes[i].At = 77 - i
	}
	if x, err := sense.Run(d, api.Env{}); err != api.OK || x.Color != numbers(5, 5, 5, 5) {
		t.Error(x, err)
	}
	// Nil and empty lists are one.
	d = copied(c)
	d.Attribs, d.Uniforms, d.Varyings = []int{}, []int{}, []int{}
	if x, err := sense.Run(d, api.Env{Attribs: []api.Vec{}, Uniforms: []api.Vec{}, Varyings: []api.Vec{}, Images: []api.Image{}}); err != api.OK || x.Color != numbers(1, 1, 1, 1) {
		t.Error(x, err)
	}
}
