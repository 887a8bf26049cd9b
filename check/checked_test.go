package check_test

import (
	"fmt"
	"slices"
	"strings"
	"testing"

	"paintbox/api"
	"paintbox/kinds"
)

// kindNames are the kinds of nodes, by their numbers.
var kindNames = strings.Fields("none shader decl var func param block if for return discard expr empty assign cond binary unary call field name int float bool")

// brief tells of each node its number, its kind, its Text, its type, and its use and function, where there is one.
func brief(c api.Checked) []string {
	var l []string
	for i, n := range c.Tree.Nodes {
		word, err := kinds.Word(c.Types[i])
		if err != api.OK {
			word = "?"
		}
		s := fmt.Sprintf("%d %s %s %s", i, kindNames[n.Kind], n.Text, word)
		if c.Uses[i] != -1 {
			s += fmt.Sprintf(" use %d", c.Uses[i])
		}
		if c.Fns[i] != 0 {
			s += fmt.Sprintf(" fn %d", c.Fns[i])
		}
		l = append(l, strings.Join(strings.Fields(s), " "))
	}
	return l
}

// told asks whether Check tells just this of a text, node by node, and of its lists.
func told(t *testing.T, stage int, text, lists string, want ...string) {
	t.Helper()
	x := tree(t, text)
	c := passes(t, stage, text)
	if n := len(x.Nodes); len(c.Types) != n || len(c.Uses) != n || len(c.Fns) != n || c.Stage != stage {
		t.Fatalf("%q: %d types, %d uses, %d functions of %d nodes, stage %d", text, len(c.Types), len(c.Uses), len(c.Fns), n, c.Stage)
	}
	if !sameTree(c.Tree, x) {
		t.Errorf("%q: another tree", text)
	}
	got := brief(c)
	for i := range max(len(got), len(want)) {
		if i >= len(got) || i >= len(want) || got[i] != want[i] {
			t.Fatalf("%q, node %d:\n%s\nwant\n%s", text, i, strings.Join(got, "\n"), strings.Join(want, "\n"))
		}
	}
	if got := fmt.Sprint(c.Attribs, c.Uniforms, c.Varyings, c.Main); got != lists {
		t.Errorf("%q: %s; want %s", text, got, lists)
	}
}

// sameTree tells whether two trees have the same nodes at the same places.
func sameTree(a, b api.Tree) bool {
	return slices.EqualFunc(a.Nodes, b.Nodes, func(a, b api.Node) bool {
		return a.Kind == b.Kind && a.Type == b.Type && a.Text == b.Text && a.Num == b.Num && a.At == b.At && slices.Equal(a.Kids, b.Kids)
	})
}

// P14.2: a vertex shader, node by node.
func TestCheckedVertex(t *testing.T) {
	told(t, vertex, "attribute vec4 p;varying vec2 y;uniform float u,w;void main(){gl_Position=p*u;y=p.xy;gl_PointSize=w;}", "[2] [6 7] [4] 8",
		"0 shader void",
		"1 decl attribute void", "2 var p vec4",
		"3 decl varying void", "4 var y vec2",
		"5 decl uniform void", "6 var u float", "7 var w float",
		"8 func main void", "9 block void",
		"10 expr void", "11 assign = vec4", "12 name gl_Position vec4 use -2", "13 binary * vec4", "14 name p vec4 use 2", "15 name u float use 6",
		"16 expr void", "17 assign = vec2", "18 name y vec2 use 4", "19 field xy vec2", "20 name p vec4 use 2",
		"21 expr void", "22 assign = float", "23 name gl_PointSize float use -3", "24 name w float use 7",
	)
}

// P14.2: a fragment shader with every kind of node.
func TestCheckedFragment(t *testing.T) {
	told(t, fragment, "uniform sampler2D s;const int k=2;float g(vec2 a,bool b){return b?a.x:-1.5;}void main(){for(int i=-1;i<3;i++){int i=i+k;}if(gl_FrontFacing&&true)discard;else;vec4 c=texture2D(s,gl_PointCoord);c.x+=g(c.xy,false);gl_FragColor=vec4(gl_FragCoord.xy,c);return;}", "[] [2] [] 17",
		"0 shader void",
		"1 decl uniform void", "2 var s sampler2D",
		"3 decl const void", "4 var k int", "5 int int",
		"6 func g float", "7 param a vec2", "8 param b bool", "9 block void",
		"10 return void", "11 cond float", "12 name b bool use 8", "13 field x float", "14 name a vec2 use 7", "15 unary - float", "16 float float",
		"17 func main void", "18 block void",
		"19 for i int", "20 int int", "21 int int", "22 block void", "23 decl void", "24 var i int", "25 binary + int", "26 name i int use 19", "27 name k int use 4",
		"28 if void", "29 binary && bool", "30 name gl_FrontFacing bool use -5", "31 bool true bool", "32 discard void", "33 empty void",
		"34 decl void", "35 var c vec4", "36 call texture2D vec4 fn 22", "37 name s sampler2D use 2", "38 name gl_PointCoord vec2 use -6",
		"39 expr void", "40 assign += float", "41 field x float", "42 name c vec4 use 35", "43 call g float use 6", "44 field xy vec2", "45 name c vec4 use 35", "46 bool false bool",
		"47 expr void", "48 assign = vec4", "49 name gl_FragColor vec4 use -7", "50 call vec4 vec4 fn 23", "51 field xy vec2", "52 name gl_FragCoord vec4 use -4", "53 name c vec4 use 35",
		"54 return void",
	)
}

// P14.2: the least shader.
func TestCheckedLeast(t *testing.T) {
	for _, stage := range both() {
		told(t, stage, "void main(){}", "[] [] [] 1", "0 shader void", "1 func main void", "2 block void")
		told(t, stage, "void f(){}void main(){f();}", "[] [] [] 3", "0 shader void", "1 func f void", "2 block void", "3 func main void", "4 block void", "5 expr void", "6 call f void use 1")
		told(t, stage, "void main(){}bvec3 f(){}", "[] [] [] 1", "0 shader void", "1 func main void", "2 block void", "3 func f bvec3", "4 block void")
	}
}

// P14.2: one name that is given in many scopes: each NodeName means the innermost one that is given by then.
func TestCheckedScopes(t *testing.T) {
	told(t, vertex, "float a;void f(int a){a;{a;bool a;a;}if(true)vec2 a=vec2(a);else a;for(int a=0;a<1;a++)a;a;}void main(){a;float a=a;a;}", "[] [] [] 30",
		"0 shader void", "1 decl void", "2 var a float",
		"3 func f void", "4 param a int", "5 block void",
		"6 expr void", "7 name a int use 4",
		"8 block void", "9 expr void", "10 name a int use 4", "11 decl void", "12 var a bool", "13 expr void", "14 name a bool use 12",
		"15 if void", "16 bool true bool", "17 decl void", "18 var a vec2", "19 call vec2 vec2 fn 23", "20 name a int use 4", "21 expr void", "22 name a int use 4",
		"23 for a int", "24 int int", "25 int int", "26 expr void", "27 name a int use 23",
		"28 expr void", "29 name a int use 4",
		"30 func main void", "31 block void", "32 expr void", "33 name a float use 2", "34 decl void", "35 var a float", "36 name a float use 2", "37 expr void", "38 name a float use 35",
	)
}

// P14.2: attributes, uniforms and varyings in whatever order: the numbers of each kind, rising.
func TestCheckedLists(t *testing.T) {
	c := passes(t, vertex, "uniform int a;varying float b;attribute vec2 c,d;float e;uniform sampler2D f,g;void h(){}const int i=1;varying vec4 j;attribute float k;void main(){float l;const int m=1;}uniform bool n;")
	if got := fmt.Sprint(c.Attribs, c.Uniforms, c.Varyings, c.Main); got != "[6 7 21] [2 11 12 30] [4 19] 22" {
		t.Error(got)
	}
}

// P14.2: the numbers of all built-in functions and types' words.
func TestCheckedFunctions(t *testing.T) {
	for number, call := range strings.Fields("- abs(a) sign(a) floor(a) fract(a) sqrt(a) inversesqrt(a) exp2(a) log2(a) sin(a) cos(a) normalize(a) min(a,a) max(a,1.0) mod(a,a) pow(a,a) step(1.0,a) mix(a,a,a) clamp(a,a,a) dot(a,a) length(a) cross(b,b) texture2D(s,a)") {
		if call == "-" {
			continue
		}
		c := passes(t, fragment, "uniform sampler2D s;vec2 a;vec3 b;void main(){"+call+";}")
		at := slices.IndexFunc(c.Tree.Nodes, func(n api.Node) bool { return n.Kind == api.NodeCall })
		if c.Fns[at] != number || c.Uses[at] != -1 {
			t.Errorf("%s: %d, %d", call, c.Fns[at], c.Uses[at])
		}
		for i, n := range c.Tree.Nodes {
			if n.Kind != api.NodeCall && c.Fns[i] != 0 || n.Kind != api.NodeName && c.Uses[i] != -1 {
				t.Errorf("%s: node %d: %d, %d", call, i, c.Fns[i], c.Uses[i])
			}
		}
	}
	for _, word := range values() {
		c := passes(t, vertex, "void main(){"+word+"(1);}")
		if c.Fns[4] != 23 || c.Uses[4] != -1 || c.Types[4] != of(t, word) {
			t.Errorf("%s: %d", word, c.Fns[4])
		}
	}
}
