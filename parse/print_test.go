package parse_test

import (
	"slices"
	"strings"
	"testing"

	"paintbox/api"
	"paintbox/fix"
	"paintbox/lex"
	"paintbox/parse"
)

// printed asks whether a text's tree is printed so, and whether that has the Same tree and prints itself.
func printed(t *testing.T, text, want string) {
	t.Helper()
	x, spot := parse.Parse(tokens(t, text))
	got, err := parse.Print(x)
	if spot != (api.Spot{}) || err != api.OK || got != want {
		t.Fatalf("Print of Parse(%q) is %q, %d, %v; want %q", text, got, err, spot, want)
	}
	back(t, x)
}

// back asks whether Parse of Lex of Print is the Same tree, and whether the text is its tokens, parted as they must be.
func back(t *testing.T, x api.Tree) {
	t.Helper()
	text, err := parse.Print(x)
	l, spot := lex.Lex(text)
	if err != api.OK || spot != (api.Spot{}) {
		t.Fatalf("Print(%v) is %q, %d, %v", x, text, err, spot)
	}
	y, spot := parse.Parse(l)
	if spot != (api.Spot{}) || !parse.Same(x, y) || !parse.Same(y, x) {
		t.Fatalf("Parse(%q) is not what was printed: %v", text, spot)
	}
	parted := ""
	for i, token := range l {
		parted += token.Text
		if i == len(l)-1 {
			break
		}
		if strings.Contains(";{}", token.Text) {
			parted += "\n"
		} else {
			parted += " "
		}
	}
	if parted != text {
		t.Fatalf("Print is %q, not %q", text, parted)
	}
}

// P12.2: the text of each kind of node.
func TestPrint(t *testing.T) {
	printed(t, "", "")
	printed(t, "int a;", "int a ;")
	printed(t, "int a;int b;", "int a ;\nint b ;")
	printed(t, "attribute vec4 p,q;uniform int a;varying vec2 v;const int c=1,d=2;", "attribute vec4 p , q ;\nuniform int a ;\nvarying vec2 v ;\nconst int c = 1 , d = 2 ;")
	printed(t, "void main(){}", "void main ( ) {\n}")
	printed(t, "void main(){}void f(){}", "void main ( ) {\n}\nvoid f ( ) {\n}")
	printed(t, "int f(int a){;}", "int f ( int a ) {\n;\n}")
	printed(t, "int f(int a,vec2 b){{}{}}", "int f ( int a , vec2 b ) {\n{\n}\n{\n}\n}")
	for text, want := range map[string]string{
		"return;":                  "return ;",
		"return a;":                "return a ;",
		"return a+b;":              "return a + b ;",
		"return(a=b);":             "return a = b ;",
		"discard;":                 "discard ;",
		"a;":                       "a ;",
		"(((a)));":                 "a ;",
		"int a=b=c;":               "int a = b = c ;",
		"const bool a=true,b;":     "const bool a = true , b ;",
		"if(a);":                   "if ( a ) ;",
		"if((a));else;":            "if ( a ) ;\nelse ;",
		"if(a=b){}else{}":          "if ( a = b ) {\n}\nelse {\n}",
		"if(a)if(b);else;else;":    "if ( a ) if ( b ) ;\nelse ;\nelse ;",
		"if(a)if(b);else;":         "if ( a ) if ( b ) ;\nelse ;",
		"for(int i=0;i<3;i++);":    "for ( int i = 0 ;\ni < 3 ;\ni ++ ) ;",
		"for(int i=1;i<2;i++){a;}": "for ( int i = 1 ;\ni < 2 ;\ni ++ ) {\na ;\n}",
		"for(int i=-5;i<-32767;i++)for(int j=-0;j<9;j++)a;": "for ( int i = - 5 ;\ni < - 32767 ;\ni ++ ) for ( int j = 0 ;\nj < 9 ;\nj ++ ) a ;",
	} {
		printed(t, "void main(){"+text+"}", "void main ( ) {\n"+want+"\n}")
	}
}

// P12.2: parentheses around an expression with an operator that stands beside an operator or ahead of a point, and nowhere else.
func TestParentheses(t *testing.T) {
	for text, want := range map[string]string{
		"a=b":                 "a = b",
		"a=b=c":               "a = ( b = c )",
		"a*=-b":               "a *= ( - b )",
		"a=b?c:d":             "a = ( b ? c : d )",
		"a=b+c":               "a = ( b + c )",
		"a=f(b)":              "a = f ( b )",
		"(a).x=(b).y":         "a . x = b . y",
		"(a+b).x=c":           "( a + b ) . x = c",
		"a?b:c":               "a ? b : c",
		"a?b:c?d:e":           "a ? b : ( c ? d : e )",
		"a+b?c=d:-e":          "( a + b ) ? ( c = d ) : ( - e )",
		"a+b+c":               "( a + b ) + c",
		"a+(b+c)":             "a + ( b + c )",
		"a+b*c":               "a + ( b * c )",
		"-a+!b":               "( - a ) + ( ! b )",
		"a||b&&c":             "a || ( b && c )",
		"a.x+f(b)*1":          "a . x + ( f ( b ) * 1 )",
		"(a=b)+(c?d:e)":       "( a = b ) + ( c ? d : e )",
		"-a":                  "- a",
		"- -a":                "- ( - a )",
		"-(a=b)":              "- ( a = b )",
		"-(a+b)":              "- ( a + b )",
		"-(a?b:c)":            "- ( a ? b : c )",
		"-a.x":                "- a . x",
		"-f(a)":               "- f ( a )",
		"-1":                  "- 1",
		"(-a).x":              "( - a ) . x",
		"(a=b).x":             "( a = b ) . x",
		"(a?b:c).x":           "( a ? b : c ) . x",
		"a.x.y":               "a . x . y",
		"f(a).x":              "f ( a ) . x",
		"1 .x":                "1 . x",
		"1. .x":               "1.0 . x",
		"true.x":              "true . x",
		"f()":                 "f ( )",
		"f(a=b,c?d:e,-g,h+i)": "f ( a = b , c ? d : e , - g , h + i )",
		"vec4((a),((b+c)))":   "vec4 ( a , b + c )",
	} {
		printed(t, "void main(){"+text+";}", "void main ( ) {\n"+want+" ;\n}")
		printed(t, "int v="+text+";", "int v = "+want+" ;")
		printed(t, "void main(){return "+text+";}", "void main ( ) {\nreturn "+want+" ;\n}")
		printed(t, "void main(){if("+text+");}", "void main ( ) {\nif ( "+want+" ) ;\n}")
		printed(t, "void main(){f("+text+");}", "void main ( ) {\nf ( "+want+" ) ;\n}")
	}
	for _, ops := range levels() {
		for _, op := range ops {
			printed(t, "int v=a"+op+"b"+op+"c;", "int v = ( a "+op+" b ) "+op+" c ;")
		}
	}
	for _, op := range []string{"=", "+=", "-=", "*=", "/="} {
		printed(t, "int v=a"+op+"b"+op+"c;", "int v = a "+op+" ( b "+op+" c ) ;")
	}
}

// P12.2: floats with a point, and with one that is put there; ints.
func TestNumbers(t *testing.T) {
	for text, want := range map[string]string{
		"0.": "0.0", ".0": "0.0", "1.": "1.0", "1.0": "1.0", "1.50": "1.5", ".5": "0.5", "00.25": "0.25", "32767.0": "32767.0", "99999.": "32767.99998", "0.00001": "0.00002", "0.000001": "0.0", "3.14159265": "3.14159",
		"0": "0", "7": "7", "10": "10", "32767": "32767",
	} {
		printed(t, "float v="+text+";", "float v = "+want+" ;")
	}
	for _, num := range []api.Fix{0, 1, 2, 65535, 65536, 65537, 98304, 12345678, api.Most - 1, api.Most, fix.Of(32767)} {
		shader, _ := around(tw(api.NodeVar, "", "v", 0, tw(api.NodeFloat, "", "", num)))
		back(t, shader.lay())
	}
	for n := range 400 {
		num := fix.Raw(int64(n) * 5368709)
		shader, _ := around(tw(api.NodeVar, "", "v", 0, tw(api.NodeFloat, "", "", num)))
		back(t, shader.lay())
		whole := fix.Of(n * 82)
		name := strings.Repeat("n", 1+n%32)
		shader, _ = around(tw(api.NodeFor, "", name, 0, tw(api.NodeInt, "", "", fix.Neg(whole)), tw(api.NodeInt, "", "", whole), sample(api.NodeEmpty)))
		back(t, shader.lay())
	}
}

// P12.2: what Print refuses: trees that may not be, with no text.
func TestPrintNone(t *testing.T) {
	for _, x := range []api.Tree{{}, {Nodes: []api.Node{{Kind: api.NodeBlock}}}, {Nodes: []api.Node{{Kind: api.NodeShader, Kids: []int{1}}}}, {Nodes: []api.Node{{Kind: api.NodeShader, Kids: []int{1}}, {Kind: api.NodeFunc, Type: "int", Text: "f"}}}} {
		if text, err := parse.Print(x); text != "" || err != api.ErrTree {
			t.Errorf("Print(%v): %q, %d", x, text, err)
		}
	}
}

// P12.2: Same asks all but At, of trees that may be and of those that may not.
func TestSame(t *testing.T) {
	text := "const int a=1-2;void main(){for(int i=0;i<3;i++)a.x=f(1.5,true);}"
	x, _ := parse.Parse(tokens(t, text))
	again := func() api.Tree {
		y, _ := parse.Parse(tokens(t, text))
		return y
	}
	same := func(y api.Tree, want bool) {
		t.Helper()
		if parse.Same(x, y) != want || parse.Same(y, x) != want || !parse.Same(y, y) {
			t.Errorf("Same of %v is not %v", y, want)
		}
	}
	same(again(), true)
	for i := range x.Nodes {
		for _, change := range []func(*api.Node){
			func(n *api.Node) { n.Kind++ },
			func(n *api.Node) { n.Kind = -n.Kind },
			func(n *api.Node) { n.Type += "x" },
			func(n *api.Node) { n.Text += "x" },
			func(n *api.Node) { n.Num++ },
			func(n *api.Node) { n.Kids = append(n.Kids, 1) },
			func(n *api.Node) { n.Kids = append([]int{0}, n.Kids...) },
		} {
			y := again()
			change(&y.Nodes[i])
			same(y, false)
			same(api.Tree{Nodes: y.Nodes[:i]}, false)
		}
		for k := range x.Nodes[i].Kids {
			y := again()
			y.Nodes[i].Kids[k]++
			same(y, false)
			y.Nodes[i].Kids[k]--
			same(y, true)
			y.Nodes[i].Kids = y.Nodes[i].Kids[:k]
			same(y, false)
		}
		for _, at := range []int{-5, 0, 1000000} {
			y := again()
			y.Nodes[i].At = at
			same(y, true)
		}
		y := again()
		if len(y.Nodes[i].Kids) == 0 {
			y.Nodes[i].Kids = []int{}
			same(y, true)
			y.Nodes[i].Kids = make([]int, 0, 5)
			same(y, true)
		}
	}
	same(api.Tree{}, false)
	same(api.Tree{Nodes: append(again().Nodes, api.Node{})}, false)
	same(api.Tree{Nodes: append(again().Nodes, x.Nodes[0])}, false)
	if !parse.Same(api.Tree{}, api.Tree{Nodes: []api.Node{}}) || parse.Same(api.Tree{}, api.Tree{Nodes: []api.Node{{}}}) || !parse.Same(api.Tree{Nodes: []api.Node{{At: 3}}}, api.Tree{Nodes: []api.Node{{At: -3}}}) {
		t.Error("Same of trees that may not be")
	}
}

// P12.4: blanks and comments change no tree but its places.
func TestBlanks(t *testing.T) {
	text := "const int a = 1 - 2 ; void main ( ) { for ( int i = - 1 ; i < 3 ; i ++ ) { a . x += f ( 1.5 , true ) ; } if ( a ) return ; else discard ; }"
	x, spot := parse.Parse(tokens(t, text))
	if spot != (api.Spot{}) {
		t.Fatal(spot)
	}
	for _, blank := range []string{"\n", "  ", "\t\r\n", "/**/", "// c\n", " /* int a; */ "} {
		y, spot := parse.Parse(tokens(t, blank+strings.ReplaceAll(text, " ", blank)+blank))
		if spot != (api.Spot{}) || !parse.Same(x, y) {
			t.Errorf("%q: %v", blank, spot)
		}
	}
	y, spot := parse.Parse(tokens(t, "const int a=1-2;void main(){for(int i=-1;i<3;i++){a.x+=f(1.5,true);}if(a)return;else discard;}"))
	if spot != (api.Spot{}) || !parse.Same(x, y) {
		t.Error(spot)
	}
}

// P12.1, P12.2: what was handed in is not changed, the room behind its end neither, and not kept; what is answered is new memory.
func TestMemory(t *testing.T) {
	text := "const int a=1-2;void f(int b,int c){for(int i=0;i<3;i++){a.x=f(1.5,true);b;c;}if(a)b;else c;}"
	room := append(tokens(t, text), tokens(t, "int z ;")...)
	n := len(room) - 3
	l := room[:n]
	was := slices.Clone(room)
	x, spot := parse.Parse(l)
	y, _ := parse.Parse(l)
	if spot != (api.Spot{}) || !slices.Equal(room, was) {
		t.Fatal("Parse changed its tokens", spot)
	}
	text, _ = parse.Print(x)
	for i := range room {
		room[i] = api.Token{}
	}
	if !parse.Same(x, y) {
		t.Fatal("Parse told two trees")
	}
	for i := range x.Nodes {
		_ = append(x.Nodes[i].Kids, -1)
		for k := range x.Nodes[i].Kids {
			x.Nodes[i].Kids[k] = -1
		}
		_ = append(x.Nodes[i].Kids, -1)
		x.Nodes[i] = y.Nodes[i]
		if !parse.Same(x, y) || parse.Check(y) != api.OK {
			t.Fatal("lists are shared", i)
		}
	}
	x, _ = parse.Parse(was[:n])
	for i := range x.Nodes {
		kids := slices.Clone(x.Nodes[i].Kids)
		x.Nodes[i].Kids = append(append(make([]int, 0, len(kids)+2), kids...), 77, 78)[:len(kids)]
	}
	x.Nodes = append(append(make([]api.Node, 0, len(x.Nodes)+1), x.Nodes...), api.Node{Kind: 99})[:len(x.Nodes)]
	if s, err := parse.Print(x); s != text || err != api.OK || parse.Check(x) != api.OK || parse.Depth(x) != 8 || !parse.Same(x, y) {
		t.Error(s, err, parse.Depth(x))
	}
	for i := range x.Nodes {
		kids := x.Nodes[i].Kids
		if more := kids[:len(kids)+2]; more[len(kids)] != 77 || more[len(kids)+1] != 78 {
			t.Error("the room behind kids was changed")
		}
	}
	if x.Nodes[:len(x.Nodes)+1][len(x.Nodes)].Kind != 99 || !parse.Same(x, y) {
		t.Error("the tree was changed")
	}
}
