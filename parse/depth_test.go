package parse_test

import (
	"slices"
	"strings"
	"testing"

	"paintbox/api"
	"paintbox/parse"
)

// deep asks whether Parse takes a text, and its deepest node lies so deep.
func deep(t *testing.T, text string, depth int) {
	t.Helper()
	x, spot := parse.Parse(tokens(t, text))
	if spot != (api.Spot{}) || parse.Check(x) != api.OK || parse.Depth(x) != depth {
		t.Errorf("Parse(%q): %v, %d deep; want %d", text, spot, parse.Depth(x), depth)
	}
}

// tooDeep asks whether Parse refuses a text at the place of the sign ~, which is taken out.
func tooDeep(t *testing.T, text string) {
	t.Helper()
	at := strings.Index(text, "~")
	refused(t, strings.Replace(text, "~", "", 1), api.ErrLong, at)
}

// P12.1, P12.2: how deep nodes lie, in trees of one rule each.
func TestDepth(t *testing.T) {
	for text, depth := range map[string]int{
		"": 0, "int a;": 2, "int a=1;": 3, "int a=((((1))));": 3, "void main(){}": 2, "void main(){;}": 3, "void f(int a){}": 2, "void main(){a;}": 4, "void main(){a.x.y;}": 6,
		"int a=1+2+3;": 5, "int a=1+2*3;": 5, "int a;void main(){a=f(-1);}int b=1;": 7, "void main(){for(int i=0;i<1;i++);}": 4, "void main(){if(a)b;else return;}": 5,
	} {
		deep(t, text, depth)
	}
}

// P12.1: nodes at MaxDepth are taken, one deeper is refused, at its At.
func TestMaxDepth(t *testing.T) {
	r := strings.Repeat
	deep(t, "void main(){"+r("- ", 28)+"a;}", 32)
	tooDeep(t, "void main(){"+r("- ", 29)+"~a;}")
	tooDeep(t, "void main(){"+r("- ", 29)+"~- a;}")
	deep(t, "void main(){"+r("{", 30)+r("}", 31), 32)
	tooDeep(t, "void main(){"+r("{", 30)+"~{"+r("}", 32))
	deep(t, "void main(){"+r("{", 29)+";"+r("}", 30), 32)
	tooDeep(t, "void main(){"+r("{", 30)+"~;"+r("}", 31))
	deep(t, "int a="+r("f(", 29)+"1"+r(")", 29)+";", 32)
	tooDeep(t, "int a="+r("f(", 30)+"~1"+r(")", 30)+";")
	deep(t, "void main(){"+r("if(a)", 29)+";}", 32)
	tooDeep(t, "void main(){"+r("if(a)", 29)+"if(~a);}")
	deep(t, "void main(){"+r("if(a);else ", 29)+";}", 32)
	tooDeep(t, "void main(){"+r("if(a);else ", 29)+"if(~a);}")
	deep(t, "void main(){"+r("a=", 28)+"1;}", 32)
	tooDeep(t, "void main(){"+r("a=", 28)+"~a=1;}")
	deep(t, "int a="+r("b?c:", 29)+"1;", 32)
	tooDeep(t, "int a="+r("b?c:", 29)+"~b?c:1;")
	deep(t, "int a="+r("(", 900)+"1"+r(")", 900)+";", 3)
	deep(t, "int a="+r("(", 900)+r("- ", 29)+"1"+r(")", 900)+";", 32)
}

// P12.1: of several nodes that lie too deep it is the first one in the tree's order: an operator stands behind its first side in the text, but ahead of it in the tree.
func TestFirstTooDeep(t *testing.T) {
	r := strings.Repeat
	deep(t, "int a=1"+r("+1", 29)+";", 32)
	tooDeep(t, "int a=~1"+r("+1", 30)+";")
	tooDeep(t, "int a=1~+1"+r("+1", 30)+";")
	tooDeep(t, "int a=1+1~+1"+r("+1", 30)+";")
	tooDeep(t, "void main(){"+r("- ", 29)+"a.~x;}")
	tooDeep(t, "void main(){"+r("-(", 29)+"a~*b"+r(")", 29)+";}")
	tooDeep(t, "void main(){"+r("-(", 29)+"a~?b:c"+r(")", 29)+";}")
	tooDeep(t, "void main(){"+r("-(", 29)+"a~=b"+r(")", 29)+";}")
	tooDeep(t, "void main(){"+r("- ", 29)+"~f(a,b);}")
	tooDeep(t, "int a="+r("f(", 29)+"1,f(~2),f(3)"+r(")", 29)+";")
	tooDeep(t, "int a=1;int b="+r("- ", 30)+"~1;int c="+r("- ", 40)+"2;")
	tooDeep(t, "void main(){"+r("{", 29)+"int ~a=1,b;"+r("}", 30))
	tooDeep(t, "void main(){"+r("{", 29)+"for(int i=~-1;i<2;i++);"+r("}", 30))
	tooDeep(t, "void main(){"+r("{", 30)+"~{;}{;}"+r("}", 31))
}

// P12.1: what is no shader is ErrParse, however deep it is; what is no tokens ErrArg, ahead of both.
func TestWrongAndDeep(t *testing.T) {
	r := strings.Repeat
	text := "void main(){" + r("- ", 60) + "a;"
	refused(t, text, api.ErrParse, len(text))
	refused(t, text+"}}", api.ErrParse, len(text)+1)
	refused(t, text+"} int", api.ErrParse, len(text)+5)
	refused(t, text+"a b;}", api.ErrParse, len(text)+2)
	l := tokens(t, text+"}")
	l[3].At = -1
	if _, spot := parse.Parse(l); spot != (api.Spot{Err: api.ErrArg}) {
		t.Error(spot)
	}
}

// P12.1: as many parts within one another as tokens allow.
func TestDeepest(t *testing.T) {
	for _, text := range []string{"(", "- ", "!", "{", "f(", "a?", "a?a:", "a=", "if(a)", "if(", "a+(", "vec2(", "return(", "(a).x=", "if(a);else "} {
		head := "void main(){"
		n := min((api.MaxText-len(head))/len(text), (api.MaxTokens-5)/len(tokens(t, text)))
		if strings.HasPrefix(text, "return") || text == "if(" {
			n = 1
		}
		whole := strings.TrimRight(head+strings.Repeat(text, n), " ")
		refused(t, whole, api.ErrParse, len(whole))
	}
	half := (api.MaxTokens - 10) / 2
	deep(t, "void main(){"+strings.Repeat("(", half)+"a"+strings.Repeat(")", half)+";}", 4)
	refused(t, "void main(){"+strings.Repeat("{", half)+strings.Repeat("}", half)+"}", api.ErrLong, 12+30)
	refused(t, "void main(){"+strings.Repeat("-", 1)+strings.Repeat(" -", 2000)+"a;}", api.ErrLong, 12+2*29)
}

// P12.2: Depth of trees that may not be is 0.
func TestDepthOfNone(t *testing.T) {
	x, _ := parse.Parse(tokens(t, "int a=1+2;"))
	if parse.Depth(x) != 4 {
		t.Fatal(parse.Depth(x))
	}
	for i := range x.Nodes {
		y := api.Tree{Nodes: slices.Clone(x.Nodes)}
		y.Nodes[i].At = -1
		if parse.Depth(y) != 0 {
			t.Error(i)
		}
	}
	if parse.Depth(api.Tree{}) != 0 || parse.Depth(api.Tree{Nodes: x.Nodes[:3]}) != 0 || parse.Depth(api.Tree{Nodes: x.Nodes[1:]}) != 0 {
		t.Error("trees that may not be")
	}
}
