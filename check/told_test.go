package check_test

import (
	"fmt"
	"slices"
	"strings"
	"testing"

	"paintbox/api"
	"paintbox/check"
)

// every is a fragment shader with every kind of node, whose nodes TestCheckedFragment tells.
const every = "uniform sampler2D s;const int k=2;float g(vec2 a,bool b){return b?a.x:-1.5;}void main(){for(int i=-1;i<3;i++){int i=i+k;}if(gl_FrontFacing&&true)discard;else;vec4 c=texture2D(s,gl_PointCoord);c.x+=g(c.xy,false);gl_FragColor=vec4(gl_FragCoord.xy,c);return;}"

// those answers the numbers of the nodes of which a call tells true.
func those(c api.Checked, tells func(api.Checked, int) bool) string {
	var l []int
	for i := range c.Tree.Nodes {
		if tells(c, i) {
			l = append(l, i)
		}
	}
	return fmt.Sprint(l)
}

// P14.3: Constant and Writable of every kind of node.
func TestEveryKind(t *testing.T) {
	c := passes(t, fragment, every)
	for kind := api.NodeShader; kind <= api.NodeBool; kind++ {
		if !slices.ContainsFunc(c.Tree.Nodes, func(n api.Node) bool { return n.Kind == kind }) {
			t.Errorf("no %s", kindNames[kind])
		}
	}
	if got := those(c, check.Constant); got != "[5 15 16 20 21 27 31 46]" {
		t.Error(got)
	}
	if got := those(c, check.Writable); got != "[12 13 14 41 42 44 45 49 53]" {
		t.Error(got)
	}
	c = passes(t, vertex, "attribute vec4 p;varying vec2 y;uniform float u,w;void main(){gl_Position=p*u;y=p.xy;gl_PointSize=w;}")
	if got := those(c, check.Constant); got != "[]" {
		t.Error(got)
	}
	if got := those(c, check.Writable); got != "[12 18 23]" {
		t.Error(got)
	}
}

// whole answers the number of the whole value of the NodeVar that stands last in a Checked.
func whole(c api.Checked) int {
	at := 0
	for _, n := range c.Tree.Nodes {
		if n.Kind == api.NodeVar && len(n.Kids) == 1 {
			at = n.Kids[0]
		}
	}
	return at
}

// P14.3: Constant of expressions of all kinds.
func TestConstant(t *testing.T) {
	for _, stage := range both() {
		for _, value := range constants() {
			c := passes(t, stage, given+"void main(){float a="+value+";}")
			if !check.Constant(c, whole(c)) || check.Constant(c, whole(c)-1) {
				t.Errorf("%s is constant", value)
			}
			for i := whole(c); i < len(c.Tree.Nodes); i++ {
				if !check.Constant(c, i) {
					t.Errorf("node %d of %s is constant", i-whole(c), value)
				}
			}
		}
		for _, value := range others() {
			if c := passes(t, stage, given+"void main(){float a="+value+";}"); check.Constant(c, whole(c)) {
				t.Errorf("%s is not constant", value)
			}
		}
	}
}

// P14.3: Constant of names: those of consts alone, of the one that is meant.
func TestConstantOfNames(t *testing.T) {
	c := passes(t, vertex, "const float a=1.0;float b;uniform float u;varying float v;attribute float p;void f(float a){a;}void main(){a;b;u;v;p;gl_PointSize;{float a;a;const float b=1.0;b;}for(int i=0;i<1;i++)i;a;b;}")
	want := ""
	for i, n := range c.Tree.Nodes {
		if n.Kind == api.NodeName {
			want += fmt.Sprintf("%s %v;", n.Text, check.Constant(c, i))
		}
	}
	if want != "a false;a true;b false;u false;v false;p false;gl_PointSize false;a false;b true;i false;a true;b false;" {
		t.Error(want)
	}
}

// P14.3: Writable of what stands ahead of a sign =, and elsewhere.
func TestWritable(t *testing.T) {
	const head = "float m;vec4 n;uniform vec4 u;varying vec4 v;const vec4 k=vec4(1.0);vec4 f(){return n;}void g(vec4 a,sampler2D s,int i){"
	for text, want := range map[string]bool{
		"m": true, "n": true, "u": false, "k": false, "a": true, "s": true, "i": true, "n.x": true, "n.wzyx": true, "n.rgb": true, "n.xx": false, "n.xyx": false, "n.xyzz": false, "n.xy.yx": true, "n.xy.xx": false, "n.xx.x": false, "n.xyz.zy.s": true,
		"u.x": false, "k.x": false, "a.ab": true, "a.aa": false, "f()": false, "f().x": false, "(n=n)": false, "(n=n).x": false, "1": false, "1.0": false, "true": false, "-n": false, "(-n).x": false, "n+n": false, "(n+n).x": false, "true?n:n": false,
		"(true?n:n).x": false, "vec4(1.0)": false, "vec4(1.0).x": false, "abs(n)": false, "!true": false, "n.stpq.rgba.xyzw": true, "n.x=1.0": false, "m+=m": false,
	} {
		for _, stage := range both() {
			c := passes(t, stage, head+text+";}void main(){}")
			at := slices.IndexFunc(c.Tree.Nodes, func(n api.Node) bool { return n.Kind == api.NodeExpr })
			if check.Writable(c, c.Tree.Nodes[at].Kids[0]) != want || check.Writable(c, at) {
				t.Errorf("stage %d, %s: not %v", stage, text, want)
			}
		}
	}
	for _, text := range []string{"v", "v.x", "v.yx.x"} {
		for _, stage := range both() {
			c := passes(t, stage, head+"}void main(){"+text+";}")
			at := len(c.Tree.Nodes) - 1 - strings.Count(text, ".")
			if check.Writable(c, at) != (stage == vertex) {
				t.Errorf("stage %d, %s", stage, text)
			}
		}
	}
}

// P14.3: Writable of names: what they mean, not how they are written.
func TestWritableOfNames(t *testing.T) {
	got := ""
	for stage, text := range []string{1: "attribute float p;varying float v;const float k=1.0;float m;void main(){p;v;k;m;gl_Position;gl_PointSize;{float k;k;const float m=1.0;m;float p;p;}for(int m=0;m<1;m++)m;}", 2: "varying float v;void main(){v;gl_FragCoord;gl_FrontFacing;gl_PointCoord;gl_FragColor;{float v;v;}v;}"} {
		if stage == 0 {
			continue
		}
		c := passes(t, stage, text)
		for i, n := range c.Tree.Nodes {
			if n.Kind == api.NodeName {
				got += fmt.Sprintf("%s %v;", n.Text, check.Writable(c, i))
			} else if check.Writable(c, i) {
				t.Errorf("node %d, %s", i, kindNames[n.Kind])
			}
		}
	}
	if got != "p false;v true;k false;m true;gl_Position true;gl_PointSize true;k true;m false;p true;m false;v false;gl_FragCoord false;gl_FrontFacing false;gl_PointCoord false;gl_FragColor true;v true;v false;" {
		t.Error(got)
	}
}

// P14.3: nodes that there are not.
func TestNoNode(t *testing.T) {
	c := passes(t, fragment, every)
	for _, node := range []int{-1, -2, len(c.Tree.Nodes), len(c.Tree.Nodes) + 1, 1 << 32, 1<<32 + 5, -1 << 63, 1<<63 - 1} {
		if check.Constant(c, node) || check.Writable(c, node) {
			t.Error(node)
		}
	}
	for _, node := range []int{-1, 0, 1} {
		if check.Constant(api.Checked{}, node) || check.Writable(api.Checked{}, node) {
			t.Error(node)
		}
	}
}

// copied answers a Checked of its own memory.
func copied(c api.Checked) api.Checked {
	c.Tree.Nodes = slices.Clone(c.Tree.Nodes)
	for i := range c.Tree.Nodes {
		c.Tree.Nodes[i].Kids = slices.Clone(c.Tree.Nodes[i].Kids)
	}
	c.Types, c.Uses, c.Fns = slices.Clone(c.Types), slices.Clone(c.Uses), slices.Clone(c.Fns)
	c.Attribs, c.Uniforms, c.Varyings = slices.Clone(c.Attribs), slices.Clone(c.Uniforms), slices.Clone(c.Varyings)
	return c
}

// spoiling answers what makes of a Checked one that differs in one field: in a value, in a length, at each node; none of them is what Check tells of its tree.
func spoiling(c api.Checked) []func(*api.Checked) {
	l := []func(*api.Checked){
		func(c *api.Checked) { c.Stage = 0 },
		func(c *api.Checked) { c.Stage = 3 },
		func(c *api.Checked) { c.Stage = vertex + fragment - c.Stage },
		func(c *api.Checked) { c.Main++ },
		func(c *api.Checked) { c.Main = 0 },
		func(c *api.Checked) { c.Main = -1 },
		func(c *api.Checked) { c.Types = c.Types[:len(c.Types)-1] },
		func(c *api.Checked) { c.Types = nil },
		func(c *api.Checked) { c.Types = append(c.Types, api.Type{}) },
		func(c *api.Checked) { c.Uses = c.Uses[:len(c.Uses)-1] },
		func(c *api.Checked) { c.Uses = nil },
		func(c *api.Checked) { c.Uses = append(c.Uses, -1) },
		func(c *api.Checked) { c.Fns = c.Fns[:len(c.Fns)-1] },
		func(c *api.Checked) { c.Fns = nil },
		func(c *api.Checked) { c.Fns = append(c.Fns, 0) },
		func(c *api.Checked) { c.Tree.Nodes = c.Tree.Nodes[:len(c.Tree.Nodes)-1] },
		func(c *api.Checked) { c.Tree.Nodes = append(c.Tree.Nodes, api.Node{Kind: api.NodeEmpty}) },
		func(c *api.Checked) { c.Tree.Nodes = nil },
	}
	for _, list := range []func(*api.Checked) *[]int{
		func(c *api.Checked) *[]int { return &c.Attribs },
		func(c *api.Checked) *[]int { return &c.Uniforms },
		func(c *api.Checked) *[]int { return &c.Varyings },
	} {
		l = append(l, func(c *api.Checked) { x := list(c); *x = append(*x, 2) }, func(c *api.Checked) { x := list(c); *x = append(*x, 0) })
		for i := range *list(&c) {
			l = append(l, func(c *api.Checked) { (*list(c))[i]++ }, func(c *api.Checked) { x := list(c); *x = slices.Delete(*x, i, i+1) })
		}
	}
	for i := range c.Tree.Nodes {
		l = append(l,
			func(c *api.Checked) { c.Types[i].Base++ },
			func(c *api.Checked) { c.Types[i].Size++ },
			func(c *api.Checked) { c.Uses[i]-- },
			func(c *api.Checked) { c.Uses[i]++ },
			func(c *api.Checked) { c.Fns[i]++ },
			func(c *api.Checked) { c.Tree.Nodes[i].Kind = 0 },
			func(c *api.Checked) { c.Tree.Nodes[i].Type += "x" },
			func(c *api.Checked) { c.Tree.Nodes[i].Num = -1 },
			func(c *api.Checked) { c.Tree.Nodes[i].Kids = append(c.Tree.Nodes[i].Kids, 1) },
		)
	}
	return l
}

// P14.3: of a Checked that Check would not tell so, with another field each, both are false.
func TestNotTold(t *testing.T) {
	for stage, text := range map[int]string{
		vertex:   "attribute float p,q;uniform float u,w;varying float v;void main(){gl_PointSize=1.0;}",
		fragment: every,
	} {
		c := passes(t, stage, text)
		constant, written := 0, 0
		for i := range c.Tree.Nodes {
			if check.Constant(c, i) {
				constant = i
			}
			if check.Writable(c, i) {
				written = i
			}
		}
		for k, spoil := range spoiling(c) {
			d := copied(c)
			spoil(&d)
			if check.Constant(d, constant) || check.Writable(d, written) || check.Same(c, d) || check.Same(d, c) {
				t.Errorf("stage %d, spoilt by %d: %v, %v", stage, k, check.Constant(d, constant), check.Writable(d, written))
			}
		}
		if d := copied(c); constant == 0 || written == 0 || !check.Constant(d, constant) || !check.Writable(d, written) {
			t.Errorf("stage %d: %d, %d", stage, constant, written)
		}
	}
}

// P14.3: a tree in which something is wrong, with what Check told of it when it was not.
func TestNotTaken(t *testing.T) {
	c := passes(t, vertex, "float a,b;void main(){a=1.0;}")
	at := len(c.Tree.Nodes) - 1
	for text, told := range map[string]bool{"a": true, "b": false, "c": false, "abs": false, "main": false, "gl_Position": false} {
		d := copied(c)
		d.Tree.Nodes[at-1].Text = text
		if check.Constant(d, at) != told || check.Writable(d, at-1) != told {
			t.Error(text)
		}
	}
	d := copied(c)
	d.Tree.Nodes[at].Num = 0
	d.Tree.Nodes[0].At, d.Tree.Nodes[at].At = 77, 0
	if !check.Constant(d, at) || !check.Writable(d, at-1) {
		t.Error("another number at another place")
	}
	d = copied(passes(t, fragment, "varying float v;void main(){v;}"))
	node := len(d.Tree.Nodes) - 1
	first := check.Writable(d, node)
	d.Stage = vertex
	if first || !check.Writable(d, node) {
		t.Error("what Check tells of both stages")
	}
}

// P14.3: Builtin of every name and stage, and of others.
func TestBuiltin(t *testing.T) {
	type row struct {
		name  string
		stage int
	}
	want := map[row]struct {
		use  int
		kind api.Type
	}{
		{"gl_Position", 1}: {-2, api.Type{Base: api.BaseFloat, Size: 4}}, {"gl_PointSize", 1}: {-3, api.Type{Base: api.BaseFloat, Size: 1}},
		{"gl_FragCoord", 2}: {-4, api.Type{Base: api.BaseFloat, Size: 4}}, {"gl_FrontFacing", 2}: {-5, api.Type{Base: api.BaseBool, Size: 1}},
		{"gl_PointCoord", 2}: {-6, api.Type{Base: api.BaseFloat, Size: 2}}, {"gl_FragColor", 2}: {-7, api.Type{Base: api.BaseFloat, Size: 4}},
	}
	names := strings.Fields("gl_Position gl_PointSize gl_FragCoord gl_FrontFacing gl_PointCoord gl_FragColor gl_ gl_position gl_Positio gl_Position_ Position gl_FragData gl_FragDepth gl_MaxVertexAttribs main a abs texture2D vec4 float const true")
	found := 0
	for _, name := range append(names, "", " gl_Position", "gl_Position ", "gl_Position\x00", "\xff", strings.Repeat("gl_Position", 1000)) {
		for _, stage := range []int{1, 2, 0, 3, -1, 1<<32 + 1, -1 << 63, 1<<63 - 1} {
			use, kind, is := check.Builtin(name, stage)
			w, ok := want[row{name, stage}]
			if use != w.use || kind != w.kind || is != ok {
				t.Errorf("Builtin(%q, %d): %d, %v, %v", name, stage, use, kind, is)
			}
			if ok {
				found++
			}
		}
	}
	if found != 6 {
		t.Error(found)
	}
}
