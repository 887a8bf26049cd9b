package check_test

import (
	"slices"
	"strings"
	"testing"

	"paintbox/api"
	"paintbox/check"
	"paintbox/lex"
	"paintbox/parse"
)

const (
	vertex   = api.StageVertex
	fragment = api.StageFragment
)

// both answers the two stages.
func both() []int { return []int{vertex, fragment} }

// tree answers the tree of a text.
func tree(t *testing.T, text string) api.Tree {
	t.Helper()
	l, spot := lex.Lex(text)
	if spot != (api.Spot{}) {
		t.Fatalf("Lex(%q): %v", text, spot)
	}
	x, spot := parse.Parse(l)
	if spot != (api.Spot{}) {
		t.Fatalf("Parse(%q): %v", text, spot)
	}
	return x
}

// isZero tells whether there is nothing in a Checked.
func isZero(c api.Checked) bool {
	return c.Tree.Nodes == nil && c.Stage == 0 && c.Types == nil && c.Uses == nil && c.Fns == nil && c.Attribs == nil && c.Uniforms == nil && c.Varyings == nil && c.Main == 0
}

// spotted asks whether Check tells this of a tree, and nothing beside.
func spotted(t *testing.T, x api.Tree, stage int, want api.Spot) {
	t.Helper()
	c, spot := check.Check(x, stage)
	if spot != want || !isZero(c) {
		text, _ := parse.Print(x)
		t.Errorf("stage %d, %q: %v with %d nodes; want %v", stage, text, spot, len(c.Tree.Nodes), want)
	}
}

// elsewhere answers a tree whose nodes stand at other places, no two at the same.
func elsewhere(x api.Tree) api.Tree {
	y := api.Tree{Nodes: slices.Clone(x.Nodes)}
	for i := range y.Nodes {
		y.Nodes[i].At = 9000 - i
	}
	return y
}

// refused asks whether Check answers this error, at the place of the sign ~, which is taken out; and wherever the node that stands there is put. A NodeExpr or NodeShader that stands there too is never meant.
func refused(t *testing.T, stage int, err api.Errno, text string) {
	t.Helper()
	at := strings.Index(text, "~")
	x := tree(t, strings.Replace(text, "~", "", 1))
	spotted(t, x, stage, api.Spot{Err: err, At: at})
	number := slices.IndexFunc(x.Nodes, func(n api.Node) bool { return n.At == at && n.Kind != api.NodeExpr && n.Kind != api.NodeShader })
	if at < 0 || number < 0 {
		t.Fatalf("%q has no node at its mark", text)
	}
	y := elsewhere(x)
	spotted(t, y, stage, api.Spot{Err: err, At: y.Nodes[number].At})
}

// mainless asks whether Check tells that there is no main, at 0 wherever the nodes stand.
func mainless(t *testing.T, text string) {
	t.Helper()
	for _, stage := range both() {
		x := tree(t, text)
		spotted(t, x, stage, api.Spot{Err: api.ErrMain})
		spotted(t, elsewhere(x), stage, api.Spot{Err: api.ErrMain})
	}
}

// passes asks whether Check takes a text, and answers what it tells.
func passes(t *testing.T, stage int, text string) api.Checked {
	t.Helper()
	c, spot := check.Check(tree(t, text), stage)
	if spot != (api.Spot{}) {
		t.Fatalf("stage %d, %q: %v", stage, text, spot)
	}
	return c
}

// passesBoth asks whether Check takes a text in both stages.
func passesBoth(t *testing.T, text string) {
	t.Helper()
	for _, stage := range both() {
		passes(t, stage, text)
	}
}

// refusedBoth asks whether Check refuses a text in both stages.
func refusedBoth(t *testing.T, err api.Errno, text string) {
	t.Helper()
	for _, stage := range both() {
		refused(t, stage, err, text)
	}
}

// within answers statements as those of main, behind a uniform, a sampler and functions that they may ask.
func within(statements string) string {
	return "uniform float u;uniform sampler2D s;void v(){}float g(float a){return a;}void main(){" + statements + "}"
}

// P14.1: the chapter's examples.
func TestExamples(t *testing.T) {
	c := passes(t, vertex, "void main(){gl_Position=vec4(1.0);}")
	if c.Fns[6] != 23 {
		t.Error(c.Fns)
	}
	refused(t, vertex, api.ErrPlace, "attribute vec4 p;void main(){p~=p;}")
	refused(t, vertex, api.ErrType, "void main(){int ~i=1.0;}")
	refused(t, vertex, api.ErrName, "float f(){return ~f();}void main(){}")
	refused(t, vertex, api.ErrLoop, "void main(){~for(int i=0;i<65;i++){}}")
	mainless(t, "float x;")
	refused(t, vertex, api.ErrPlace, "void main(){~discard;}")
	passes(t, fragment, "void main(){discard;}")
	refused(t, vertex, api.ErrValue, "const float ~a;void main(){}")
	x := tree(t, "attribute vec4 p;void main(){p=p;}")
	spotted(t, x, vertex, api.Spot{Err: api.ErrPlace, At: 30})
}

// P14.1: the errors' and the stages' numbers.
func TestNumbers(t *testing.T) {
	if api.ErrName != 240 || api.ErrPlace != 241 || api.ErrLoop != 242 || api.ErrMain != 243 || api.ErrValue != 244 || vertex != 1 || fragment != 2 {
		t.Error("numbers")
	}
}

// P14.1: stages that are none of both, ahead of a tree that may not be.
func TestStages(t *testing.T) {
	good, wrong := tree(t, "void main(){}"), tree(t, "int a=1.0;")
	bad := tree(t, "void main(){}")
	bad.Nodes[1].Kind = api.NodeBlock
	for _, x := range []api.Tree{good, wrong, bad, {}} {
		for _, stage := range []int{0, 3, -1, 4, 1 << 32, 1<<32 + 1, -1 << 63, 1<<63 - 1} {
			spotted(t, x, stage, api.Spot{Err: api.ErrArg})
		}
	}
	for _, stage := range both() {
		spotted(t, wrong, stage, api.Spot{Err: api.ErrType, At: 4})
		spotted(t, bad, stage, api.Spot{Err: api.ErrTree})
		spotted(t, api.Tree{}, stage, api.Spot{Err: api.ErrTree})
	}
}

// P14.1: trees that may not be, each node of a shader spoilt once: ErrTree at 0, wherever it is, even if something else is wrong ahead.
func TestTrees(t *testing.T) {
	for _, text := range []string{within("if(u<1.0){int a=1;}else;for(int i=-1;i<2;i++)u;return;"), "int a=b;void main(){c=d.x+-1.0;}"} {
		x := tree(t, text)
		for i := range x.Nodes {
			for _, spoil := range []func(*api.Node){
				func(n *api.Node) { n.At = -1 },
				func(n *api.Node) { n.Kind = 0 },
				func(n *api.Node) { n.Kind = 23 },
				func(n *api.Node) { n.Type += "!" },
				func(n *api.Node) { n.Text += "!" },
				func(n *api.Node) { n.Num = -1 },
				func(n *api.Node) { n.Kids = append([]int{0}, n.Kids...) },
				func(n *api.Node) { n.Kids = append(slices.Clone(n.Kids), -1) },
				func(n *api.Node) { n.Kids = append(slices.Clone(n.Kids), 1<<62) },
			} {
				y := api.Tree{Nodes: slices.Clone(x.Nodes)}
				spoil(&y.Nodes[i])
				for _, stage := range both() {
					spotted(t, y, stage, api.Spot{Err: api.ErrTree})
				}
			}
		}
		spotted(t, api.Tree{Nodes: x.Nodes[:len(x.Nodes)-1]}, vertex, api.Spot{Err: api.ErrTree})
		spotted(t, api.Tree{Nodes: x.Nodes[1:]}, vertex, api.Spot{Err: api.ErrTree})
		spotted(t, api.Tree{Nodes: append(slices.Clone(x.Nodes), x.Nodes[len(x.Nodes)-1])}, vertex, api.Spot{Err: api.ErrTree})
	}
}

// P14.1: trees of just MaxNodes, and one more; what is taken is taken however great it is.
func TestGreatTrees(t *testing.T) {
	x := tree(t, "void main(){;}")
	for len(x.Nodes) < api.MaxNodes {
		x.Nodes[2].Kids = append(x.Nodes[2].Kids, len(x.Nodes))
		x.Nodes = append(x.Nodes, api.Node{Kind: api.NodeEmpty})
	}
	c, spot := check.Check(x, vertex)
	if spot != (api.Spot{}) || len(c.Types) != api.MaxNodes || len(c.Uses) != api.MaxNodes || len(c.Fns) != api.MaxNodes || c.Main != 1 {
		t.Error(spot, len(c.Types))
	}
	x.Nodes[2].Kids = append(x.Nodes[2].Kids, len(x.Nodes))
	x.Nodes = append(x.Nodes, api.Node{Kind: api.NodeEmpty})
	spotted(t, x, vertex, api.Spot{Err: api.ErrTree})
}

// P14.1: the shader's own row: a NodeFunc main is there, behind all else.
func TestMainIsThere(t *testing.T) {
	for _, text := range []string{"", "float x;", "float main;", "const float main=1.0;", "uniform sampler2D main;", "void f(){}", "void f(){int main=1;}", "void f(int main){}", "void Main(){}", "void f(){for(int main=0;main<1;main++);}", "void main_(){}"} {
		mainless(t, text)
	}
	refusedBoth(t, api.ErrName, "void f(){~a;}")
	refusedBoth(t, api.ErrType, "int ~a=1.0;")
	for text, number := range map[string]int{"void main(){}": 1, "float x;void main(){}": 3, "void main(){}void f(){}": 1, "void f(){int main=1;}void main(){}": 6, "void f(int main){}void main(){}": 4} {
		for _, stage := range both() {
			if c := passes(t, stage, text); c.Main != number || c.Stage != stage || c.Tree.Nodes[number].Kind != api.NodeFunc || c.Tree.Nodes[number].Text != "main" {
				t.Errorf("%q: main is %d", text, c.Main)
			}
		}
	}
}

// P14.1: of two things that are wrong the first one of the walk is told, not the one that stands first.
func TestFirstWrong(t *testing.T) {
	for text, err := range map[string]api.Errno{
		"int ~a=1.0;int b=1.0;":                       api.ErrType,
		"int a=~c,b=1.0;":                             api.ErrName,
		"int a=1,~b=1.0,c=d;":                         api.ErrType,
		"int ~a=1.0;void f(){b;}":                     api.ErrType,
		"void f(){~b;}int a=1.0;":                     api.ErrName,
		"void f(){~b;}void abs(){}":                   api.ErrName,
		"void f(void ~a){b;}":                         api.ErrType,
		"void f(int ~abs){b;}":                        api.ErrName,
		"void main(){~a=b;}":                          api.ErrName,
		"void main(){int c;c=~b;}":                    api.ErrName,
		"void main(){a(~b);}":                         api.ErrName,
		"void main(){void(~b);}":                      api.ErrName,
		"void main(){vec2(~b,c);}":                    api.ErrName,
		"void main(){1+~b;}":                          api.ErrName,
		"void main(){~b+c;}":                          api.ErrName,
		"void main(){1~+1.0+b;}":                      api.ErrType,
		"void main(){(1~+1.0).x;}":                    api.ErrType,
		"void main(){-~a.x;}":                         api.ErrName,
		"void main(){1?~a:b;}":                        api.ErrName,
		"void main(){~a?b:c;}":                        api.ErrName,
		"void main(){true?1:~c;}":                     api.ErrName,
		"void main(){~if(1)a;}":                       api.ErrType,
		"void main(){if(~a)b;else c;}":                api.ErrName,
		"void main(){if(true)~b;else c;}":             api.ErrName,
		"void main(){if(true);else ~c;d;}":            api.ErrName,
		"void main(){~for(int abs=0;abs<65;abs++)a;}": api.ErrLoop,
		"void main(){~for(int abs=0;abs<64;abs++)a;}": api.ErrName,
		"void main(){for(int i=0;i<64;i++)~a;b;}":     api.ErrName,
		"void main(){return ~a;}":                     api.ErrName,
		"void main(){~return 1;b;}":                   api.ErrType,
		"~float main(int a){b;}":                      api.ErrMain,
		"~sampler2D main(int a){b;}":                  api.ErrType,
		"~sampler2D abs(void a){b;}":                  api.ErrType,
		"const int ~a,b=c;":                           api.ErrValue,
		"uniform void ~a=b;":                          api.ErrType,
		"uniform int ~a=b;":                           api.ErrValue,
		"varying int ~a=b;":                           api.ErrType,
		"varying float ~abs=b;":                       api.ErrValue,
		"float a;const int ~abs=a;":                   api.ErrType,
		"float a;const float ~abs=a;":                 api.ErrValue,
		"float ~abs=1.0;void f(){a;}":                 api.ErrName,
		"void main(){int a;a~=1.0;b;}":                api.ErrType,
		"void main(){int a;(a~=1.0)+b;}":              api.ErrType,
		"uniform int a;void main(){a~=1.0;}":          api.ErrPlace,
		"uniform vec2 a;void main(){a.~z=b;}":         api.ErrField,
		"uniform vec2 a;void main(){a.x=~b;}":         api.ErrName,
		"uniform vec2 a;void main(){a.x~=1;}":         api.ErrPlace,
		"void f(){f(g(~h()));}":                       api.ErrName,
		"void f(){}void g(){f(1,~h);}":                api.ErrName,
		"void f(int a,int ~a,void b){}":               api.ErrName,
		"void main(){{int a;{int ~abs=1.0;}}b;}":      api.ErrType,
		"void main(){int a=1,~a=2;b;}":                api.ErrName,
		"void main(){vec2 a;a.~xyzw.q=1.0;}":          api.ErrField,
		"void main(){vec2 a;a.xx.~z=1.0;}":            api.ErrField,
		"void main(){vec2 a;a.xx.y~=1.0;}":            api.ErrPlace,
	} {
		refusedBoth(t, err, text)
	}
}
