package parse_test

import (
	"math"
	"slices"
	"strconv"
	"strings"
	"testing"

	"paintbox/api"
	"paintbox/fix"
	"paintbox/lex"
	"paintbox/parse"
	"paintbox/pre"
)

// tokens answers the tokens of a text.
func tokens(t *testing.T, text string) []api.Token {
	t.Helper()
	l, spot := lex.Lex(text)
	if spot != (api.Spot{}) {
		t.Fatalf("Lex(%q): %v", text, spot)
	}
	return l
}

// kindNames are the kinds of nodes, by their numbers.
var kindNames = strings.Fields("none shader decl var func param block if for return discard expr empty assign cond binary unary call field name int float bool")

// brief tells a tree: of each node its kind, Type, Text, Num (in whole ones, if it is whole) and At, and its kids in brackets.
func brief(t *testing.T, x api.Tree) string {
	t.Helper()
	next := 0
	var tell func() string
	tell = func() string {
		n := x.Nodes[next]
		next++
		s := kindNames[n.Kind]
		for _, text := range []string{n.Type, n.Text} {
			if text != "" {
				s += " " + text
			}
		}
		if n.Num != 0 {
			s += " " + fix.Text(n.Num)
		}
		s += "@" + strconv.Itoa(n.At)
		var kids []string
		for _, kid := range n.Kids {
			if kid != next {
				t.Fatalf("a kid is %d, the next node %d", kid, next)
			}
			kids = append(kids, tell())
		}
		if kids != nil {
			s += "[" + strings.Join(kids, ", ") + "]"
		}
		return s
	}
	s := tell()
	if next != len(x.Nodes) {
		t.Fatalf("%d nodes of %d are told", next, len(x.Nodes))
	}
	return s
}

// told asks whether Parse answers just this tree of a text.
func told(t *testing.T, text, want string) {
	t.Helper()
	x, spot := parse.Parse(tokens(t, text))
	if spot != (api.Spot{}) {
		t.Errorf("Parse(%q): %v", text, spot)
	} else if got := brief(t, x); got != want {
		t.Errorf("Parse(%q)\n is %s\nnot %s", text, got, want)
	}
}

// refused asks whether Parse answers this error of a text, and nothing beside.
func refused(t *testing.T, text string, err api.Errno, at int) {
	t.Helper()
	x, spot := parse.Parse(tokens(t, text))
	if spot != (api.Spot{Err: err, At: at}) || x.Nodes != nil {
		t.Errorf("Parse(%q): %v with %d nodes; want %d at %d", text, spot, len(x.Nodes), err, at)
	}
}

// wrong asks whether the token that stands ahead of the sign ~ is the first one that can't stand there: what is ahead of it is the begin of a shader.
func wrong(t *testing.T, text string) {
	t.Helper()
	ahead, _, marked := strings.Cut(text, "~")
	l := tokens(t, ahead)
	if !marked || len(l) == 0 {
		t.Fatalf("%q has no mark", text)
	}
	at := l[len(l)-1].At
	refused(t, strings.Replace(text, "~", " ", 1), api.ErrParse, at)
	refused(t, ahead, api.ErrParse, at)
	if _, spot := parse.Parse(l[:len(l)-1]); spot.Err != api.OK && spot.At <= l[max(0, len(l)-2)].At {
		t.Errorf("%q is wrong ahead of the mark: %v", text, spot)
	}
}

// body answers a tree's text around a statement, which stands at 12.
func body(statement string) string {
	return "shader@0[func void main@0[block@11[" + statement + "]]]"
}

// P12.1: the chapter's examples.
func TestExamples(t *testing.T) {
	told(t, "void main(){}", "shader@0[func void main@0[block@11]]")
	told(t, "int a=1-2-3;", "shader@0[decl int@0[var a@4[binary -@9[binary -@7[int 1@6, int 2@8], int 3@10]]]]")
	told(t, "float f(vec2 v){return v.x;}", "shader@0[func float f@0[param vec2 v@13, block@15[return@16[field x@25[name v@23]]]]]")
	refused(t, "void main(){a+b=c;}", api.ErrParse, 15)
	refused(t, "int", api.ErrParse, 3)
	refused(t, "int if;", api.ErrParse, 4)
	refused(t, "void main(){", api.ErrParse, 12)
}

// P12.1: no tokens are a shader, nil or empty.
func TestNothing(t *testing.T) {
	for _, text := range []string{"", " ", "\n\n", "// int", "/* int */"} {
		told(t, text, "shader@0")
	}
	for _, l := range [][]api.Token{nil, {}, tokens(t, "int a;")[:0]} {
		x, spot := parse.Parse(l)
		if spot != (api.Spot{}) || len(x.Nodes) != 1 || x.Nodes[0].Kind != api.NodeShader {
			t.Error(x, spot)
		}
	}
}

// P12.1: tokens that lex.Check refuses, and places below 0, ahead of what else is wrong.
func TestArg(t *testing.T) {
	good := tokens(t, "int a = 1 + 2.5 ;")
	spoil := func(i int, f func(*api.Token)) []api.Token {
		l := slices.Clone(good)
		f(&l[i])
		return l
	}
	for i := range good {
		for _, f := range []func(*api.Token){
			func(x *api.Token) { x.At = -1 },
			func(x *api.Token) { x.At = math.MinInt },
			func(x *api.Token) { x.Kind = 0 },
			func(x *api.Token) { x.Kind = 5 },
			func(x *api.Token) { x.Num++ },
			func(x *api.Token) { x.Text = "" },
			func(x *api.Token) { x.Text += " " },
			func(x *api.Token) { x.Text += "@" },
			func(x *api.Token) { *x = api.Token{} },
		} {
			for _, l := range [][]api.Token{spoil(i, f), append(spoil(i, f), good...), append([]api.Token{good[1], good[1]}, spoil(i, f)...)} {
				x, spot := parse.Parse(l)
				if spot != (api.Spot{Err: api.ErrArg}) || x.Nodes != nil {
					t.Errorf("Parse(%v): %v", l, spot)
				}
			}
		}
		l := spoil(i, func(x *api.Token) { x.Line = -7 })
		if x, spot := parse.Parse(l); spot != (api.Spot{}) || len(x.Nodes) != 6 {
			t.Errorf("Parse(%v): %v", l, spot)
		}
	}
}

// P12.1: MaxTokens tokens are taken, one more is refused as tokens.
func TestMaxTokens(t *testing.T) {
	many := tokens(t, "void main(){"+strings.Repeat(";", api.MaxTokens-6)+"}")
	x, spot := parse.Parse(many)
	if len(many) != api.MaxTokens || spot != (api.Spot{}) || len(x.Nodes) != api.MaxTokens-3 {
		t.Error(len(many), spot, len(x.Nodes))
	}
	for _, l := range [][]api.Token{append(slices.Clone(many), many[5]), append(slices.Clone(many), many[0]), append(many[:1:1], many...)} {
		if x, spot := parse.Parse(l); spot != (api.Spot{Err: api.ErrArg}) || x.Nodes != nil {
			t.Error(spot)
		}
	}
}

// P12.1: declarations of the whole shader, with each word ahead and with none, with one NAME and with several, with values and without.
func TestDecls(t *testing.T) {
	told(t, "int a;", "shader@0[decl int@0[var a@4]]")
	told(t, " const int a = 1 ;", "shader@0[decl int const@1[var a@11[int 1@15]]]")
	for _, word := range []string{"attribute", "uniform", "varying", "const"} {
		at := strconv.Itoa(len(word) + 6)
		told(t, word+" vec2 a;", "shader@0[decl vec2 "+word+"@0[var a@"+at+"]]")
		wrong(t, word+" ;~")
		wrong(t, word+" "+word+"~ int a;")
		wrong(t, word+" a~;")
		wrong(t, word+" int a(~){}")
		wrong(t, word+" int (~)")
	}
	told(t, "int a,b,c;", "shader@0[decl int@0[var a@4, var b@6, var c@8]]")
	told(t, "int a=1,b,c=b=2;", "shader@0[decl int@0[var a@4[int 1@6], var b@8, var c@10[assign =@13[name b@12, int 2@14]]]]")
	told(t, "int a;float b;", "shader@0[decl int@0[var a@4], decl float@6[var b@12]]")
	told(t, "int a;void f(){}int b;", "shader@0[decl int@0[var a@4], func void f@6[block@14], decl int@16[var b@20]]")
	for _, word := range typeWords() {
		told(t, word+" a;", "shader@0[decl "+word+"@0[var a@"+strconv.Itoa(len(word)+1)+"]]")
	}
	for _, text := range []string{
		"a~", "1~", ";~", "int a;;~", "int ;~", "int a b~", "int a,;~", "int a,,~", "int a=;~", "int a=1,int~ b;", "int 1~;", "int int~ a;", "int a.~", "int a[~",
		"if~", "{~", "}~", "#~", "int a;}~", "precision~ mediump float;", "struct~ s", "void main(){};~", "in~ int a;", "int a==~1;", "int a+=~1;", "int true~;",
	} {
		wrong(t, text)
	}
}

// P12.1: functions, with params and without.
func TestFuncs(t *testing.T) {
	told(t, "int f(int a){}", "shader@0[func int f@0[param int a@10, block@12]]")
	told(t, "int f(int a,bool b , vec4 c){}", "shader@0[func int f@0[param int a@10, param bool b@17, param vec4 c@26, block@28]]")
	for _, word := range typeWords() {
		n := len(word)
		told(t, word+" f("+word+" a){}", "shader@0[func "+word+" f@0[param "+word+" a@"+strconv.Itoa(2*n+4)+", block@"+strconv.Itoa(2*n+6)+"]]")
	}
	for _, text := range []string{
		"int f(void)~{}", "int f(a~)", "int f(,~", "int f(int a,)~", "int f(int a,,~", "int f(int a int~", "int f(int if~)", "int f(int)~", "int f(const~ int a)", "int f(in~ int a)",
		"int f();~", "int f()int~", "int f(){}}~", "int f(){int g(~){}}", "int f(int a=~1)", "int f(1~)", "int f(int (~", "int if~(", "int f{~", "int f)~", "int f(){else~", "int f(int a)(~",
	} {
		wrong(t, text)
	}
}

// P12.1: each statement, with each part that may be left out and without it.
func TestStatements(t *testing.T) {
	for text, want := range map[string]string{
		"{}":                             "block@12",
		"{{};}":                          "block@12[block@13, empty@15]",
		";":                              "empty@12",
		"discard;":                       "discard@12",
		"return;":                        "return@12",
		"return a;":                      "return@12[name a@19]",
		"return a=b;":                    "return@12[assign =@20[name a@19, name b@21]]",
		"a;":                             "expr@12[name a@12]",
		"(a);":                           "expr@12[name a@13]",
		"-a;":                            "expr@12[unary -@12[name a@13]]",
		"a+b;":                           "expr@12[binary +@13[name a@12, name b@14]]",
		"int a;":                         "decl int@12[var a@16]",
		"int a=1,b;":                     "decl int@12[var a@16[int 1@18], var b@20]",
		"const int a;":                   "decl int const@12[var a@22]",
		"const int a=1,b=2;":             "decl int const@12[var a@22[int 1@24], var b@26[int 2@28]]",
		"int(a);":                        "expr@12[call int@12[name a@16]]",
		"void();":                        "expr@12[call void@12]",
		"sampler2D s;":                   "decl sampler2D@12[var s@22]",
		"true;":                          "expr@12[bool true@12]",
		"false;":                         "expr@12[bool false@12]",
		"1;":                             "expr@12[int 1@12]",
		".5;":                            "expr@12[float 0.5@12]",
		"if(a);":                         "if@12[name a@15, empty@17]",
		"if(a);else;":                    "if@12[name a@15, empty@17, empty@22]",
		"if(a=b){}else{}":                "if@12[assign =@16[name a@15, name b@17], block@19, block@25]",
		"if(a)int b;":                    "if@12[name a@15, decl int@17[var b@21]]",
		"if(a)return;else b=c;":          "if@12[name a@15, return@17, expr@29[assign =@30[name b@29, name c@31]]]",
		"for(int i=0;i<3;i++);":          "for i@12[int@22, int 3@26, empty@32]",
		"for(int i=1;i<2;i++){a;}":       "for i@12[int 1@22, int 2@26, block@32[expr@33[name a@33]]]",
		"for(int i=-1;i<-0;i++);":        "for i@12[int -1@22, int@27, empty@34]",
		"for(int i=- 3;i<- 2;i++);":      "for i@12[int -3@22, int -2@28, empty@36]",
		"for(int i=-32767;i<32767;i++);": "for i@12[int -32767@22, int 32767@31, empty@41]",
	} {
		told(t, "void main(){"+text+"}", body(want))
	}
}

// P12.1: an else belongs to the last if that it can.
func TestElse(t *testing.T) {
	for text, want := range map[string]string{
		"if(a)if(b);else;":                     "if@12[name a@15, if@17[name b@20, empty@22, empty@27]]",
		"if(a)if(b);else;else;":                "if@12[name a@15, if@17[name b@20, empty@22, empty@27], empty@32]",
		"if(a){if(b);}else;":                   "if@12[name a@15, block@17[if@18[name b@21, empty@23]], empty@29]",
		"if(a);else if(b);else;":               "if@12[name a@15, empty@17, if@23[name b@26, empty@28, empty@33]]",
		"if(a)for(int i=0;i<1;i++)if(b);else;": "if@12[name a@15, for i@17[int@27, int 1@31, if@37[name b@40, empty@42, empty@47]]]",
		"if(a)if(b)if(c);else;else;":           "if@12[name a@15, if@17[name b@20, if@22[name c@25, empty@27, empty@32], empty@37]]",
		"if(a);if(b);else;":                    "if@12[name a@15, empty@17], if@18[name b@21, empty@23, empty@28]",
	} {
		told(t, "void main(){"+text+"}", body(want))
	}
	for _, text := range []string{"else~", "if(a);else;else~", "if(a);;else~", "{if(a);}else~", "for(int i=0;i<1;i++);else~", "if(a)else~", "if(a);else else~", "if(a)if(b);else;else;else~"} {
		wrong(t, "void main(){"+text)
	}
}

// P12.1: what can't stand in a statement.
func TestWrongStatements(t *testing.T) {
	for _, text := range []string{
		"int;~", "int=~", "int a int~", "int if~", "int 1~", "int int~", "int.~", "int)~", "const;~", "const a~", "const int(~", "const const~", "uniform~", "attribute~", "varying~",
		"return return~", "return int;~", "return int a~", "return a b~", "return,~", "return)~", "return a=;~", "discard a~", "discard}~", "discard(~", "while~(a)", "do~", "break~;", "continue~;",
		"struct~", "in~", "out~", "inout~", "precision~", "lowp~", "mediump~", "highp~", "a}~", "a b~", "a,~", "a:~", "a)~", ")~", ",~", ".~", "?~", ":~", "=~", "==~", "#~", "[~", "]~", "a[~", "a#~",
		"if a~", "if()~", "if(a}~", "if(a,~", "if(a;~", "if(int a~", "if(a)}~", "if(a)else~", "if{~", "if(if~", "return if~", "(if~", "{)~", "else~",
		"for;~", "for(;~", "for(a~", "for(float~", "for(const~", "for(int;~", "for(int int~", "for(int i;~", "for(int i+=~", "for(int i==~", "for(int i=a~", "for(int i=1.0~", "for(int i=+~",
		"for(int i=--~", "for(int i=-a~", "for(int i=- -~", "for(int i=-1.0~", "for(int i=(~", "for(int i=1+~", "for(int i=1,~", "for(int i=1)~", "for(int i=1;j~", "for(int i=1;;~",
		"for(int i=1;1~", "for(int i=1;int~", "for(int i=1;i<=~", "for(int i=1;i>~", "for(int i=1;i;~", "for(int i=1;i=~", "for(int i=1;i<i~", "for(int i=1;i<2.~", "for(int i=1;i<2)~",
		"for(int i=1;i<2;)~", "for(int i=1;i<2;j~", "for(int i=1;i<2;++~", "for(int i=1;i<2;i--~", "for(int i=1;i<2;i+~", "for(int i=1;i<2;i+=~", "for(int i=1;i<2;i;~", "for(int i=1;i<2;i++;~",
		"for(int i=1;i<2;i++)}~", "for(int i=1;i<2;i++)else~", "for(int i=1;I~", "for(int ij=1;i~", "for(int i=1;ij~", "for(int i=1;i<2;ii~", "for(int if~", "for(int i=2;i<- -~", "void f(~){}", "int a(~1);",
	} {
		wrong(t, "void main(){"+text)
	}
}

// P12.1: a TYPE begins an expression, if a sign ( stands behind it, else a local; in an expression it calls.
func TestTypes(t *testing.T) {
	for _, word := range typeWords() {
		n := len(word)
		at := func(i int) string { return strconv.Itoa(12 + n + i) }
		told(t, "void main(){"+word+" a;}", body("decl "+word+"@12[var a@"+at(1)+"]"))
		told(t, "void main(){"+word+"(a);}", body("expr@12[call "+word+"@12[name a@"+at(1)+"]]"))
		told(t, "void main(){"+word+" ().x=a;}", body("expr@12[assign =@"+at(5)+"[field x@"+at(4)+"[call "+word+"@12], name a@"+at(6)+"]]"))
		for _, ahead := range []string{"(", "a=", "-", "a+", "f(", "f(a,", "a?", "a?b:", "int b=", "return ", "if("} {
			for _, behind := range []string{"a~", ")~", ";~", ".~", "=~", "1~", "int~", "{~", "+~"} {
				wrong(t, "void main(){"+ahead+word+" "+behind)
			}
			refused(t, "void main(){"+ahead+word, api.ErrParse, 12+len(ahead)+n)
		}
		refused(t, "void main(){"+word, api.ErrParse, 12+n)
		refused(t, "void main(){"+word+"  ", api.ErrParse, 12+n)
	}
}

// expr answers the tree of an expression that stands at 0 of a text, as Parse tells it at 0.
func expr(t *testing.T, text string) string {
	t.Helper()
	l := tokens(t, "void main(){"+text+";}")
	for i := range l {
		l[i].At = max(0, l[i].At-12)
	}
	x, spot := parse.Parse(l)
	if spot != (api.Spot{}) {
		t.Fatalf("Parse(%q): %v", text, spot)
	}
	s, found := strings.CutPrefix(brief(t, x), "shader@0[func void main@0[block@0[expr@0[")
	if !found {
		t.Fatalf("Parse(%q): %s", text, s)
	}
	return strings.TrimSuffix(s, "]]]]")
}

// P12.1: each kind of expression.
func TestExprs(t *testing.T) {
	for text, want := range map[string]string{
		"a":                "name a@0",
		"0":                "int@0",
		"32767":            "int 32767@0",
		"1.5":              "float 1.5@0",
		"40000.":           "float 32767.99998@0",
		"true":             "bool true@0",
		"false":            "bool false@0",
		"((a))":            "name a@2",
		"f()":              "call f@0",
		"f(a)":             "call f@0[name a@2]",
		"f(a,1,b=c)":       "call f@0[name a@2, int 1@4, assign =@7[name b@6, name c@8]]",
		"f(g(h()))":        "call f@0[call g@2[call h@4]]",
		"vec2(a,b)":        "call vec2@0[name a@5, name b@7]",
		"a.x":              "field x@2[name a@0]",
		"a.x.y.z":          "field z@6[field y@4[field x@2[name a@0]]]",
		"f(a).x":           "field x@5[call f@0[name a@2]]",
		"1 .x":             "field x@3[int 1@0]",
		"1. .x":            "field x@4[float 1@0]",
		"true.x":           "field x@5[bool true@0]",
		"(a+b).x":          "field x@6[binary +@2[name a@1, name b@3]]",
		"-a":               "unary -@0[name a@1]",
		"!a":               "unary !@0[name a@1]",
		"- -a":             "unary -@0[unary -@2[name a@3]]",
		"-!-a.x":           "unary -@0[unary !@1[unary -@2[field x@5[name a@3]]]]",
		"-1":               "unary -@0[int 1@1]",
		"-1.5":             "unary -@0[float 1.5@1]",
		"a?b:c":            "cond@1[name a@0, name b@2, name c@4]",
		"a?b:c?d:e":        "cond@1[name a@0, name b@2, cond@5[name c@4, name d@6, name e@8]]",
		"a?b?c:d:e":        "cond@1[name a@0, cond@3[name b@2, name c@4, name d@6], name e@8]",
		"(a?b:c)?d:e":      "cond@7[cond@2[name a@1, name b@3, name c@5], name d@8, name e@10]",
		"a?b=c:d":          "cond@1[name a@0, assign =@3[name b@2, name c@4], name d@6]",
		"a=b?c:d":          "assign =@1[name a@0, cond@3[name b@2, name c@4, name d@6]]",
		"a||b?c:d||e":      "cond@4[binary ||@1[name a@0, name b@3], name c@5, binary ||@8[name d@7, name e@10]]",
		"a=b":              "assign =@1[name a@0, name b@2]",
		"a=b=c":            "assign =@1[name a@0, assign =@3[name b@2, name c@4]]",
		"a.x=b":            "assign =@3[field x@2[name a@0], name b@4]",
		"(a)=b":            "assign =@3[name a@1, name b@4]",
		"((a.x))=b":        "assign =@7[field x@4[name a@2], name b@8]",
		"(a+b).x=c":        "assign =@7[field x@6[binary +@2[name a@1, name b@3]], name c@8]",
		"(a=b).x=c":        "assign =@7[field x@6[assign =@2[name a@1, name b@3]], name c@8]",
		"f().x=c":          "assign =@5[field x@4[call f@0], name c@6]",
		"1 .x=c":           "assign =@4[field x@3[int 1@0], name c@5]",
		"(a=b)":            "assign =@2[name a@1, name b@3]",
		"(a=b)+c":          "binary +@5[assign =@2[name a@1, name b@3], name c@6]",
		"a+(b=c)":          "binary +@1[name a@0, assign =@4[name b@3, name c@5]]",
		"-(a=b)":           "unary -@0[assign =@3[name a@2, name b@4]]",
		"a?b:(c=d)":        "cond@1[name a@0, name b@2, assign =@6[name c@5, name d@7]]",
		"a-(b-c)":          "binary -@1[name a@0, binary -@4[name b@3, name c@5]]",
		"-a*b":             "binary *@2[unary -@0[name a@1], name b@3]",
		"a*-b":             "binary *@1[name a@0, unary -@2[name b@3]]",
		"a- -b":            "binary -@1[name a@0, unary -@3[name b@4]]",
		"!a==b":            "binary ==@2[unary !@0[name a@1], name b@4]",
		"-(a*b)":           "unary -@0[binary *@3[name a@2, name b@4]]",
		"a<b<c":            "binary <@3[binary <@1[name a@0, name b@2], name c@4]",
		"a==b!=c==d":       "binary ==@7[binary !=@4[binary ==@1[name a@0, name b@3], name c@6], name d@9]",
		"a||b&&c||d":       "binary ||@7[binary ||@1[name a@0, binary &&@4[name b@3, name c@6]], name d@9]",
		"a+b*c-d":          "binary -@5[binary +@1[name a@0, binary *@3[name b@2, name c@4]], name d@6]",
		"a/b*c/d":          "binary /@5[binary *@3[binary /@1[name a@0, name b@2], name c@4], name d@6]",
		"a||b&&c==d<e+f*g": "binary ||@1[name a@0, binary &&@4[name b@3, binary ==@7[name c@6, binary <@10[name d@9, binary +@12[name e@11, binary *@14[name f@13, name g@15]]]]]]",
		"a*b+c<d==e&&f||g": "binary ||@13[binary &&@10[binary ==@7[binary <@5[binary +@3[binary *@1[name a@0, name b@2], name c@4], name d@6], name e@9], name f@12], name g@15]",
	} {
		if got := expr(t, text); got != want {
			t.Errorf("%q\n is %s\nnot %s", text, got, want)
		}
	}
	for _, op := range []string{"=", "+=", "-=", "*=", "/="} {
		if got, want := expr(t, "a "+op+" b"), "assign "+op+"@2[name a@0, name b@"+strconv.Itoa(len(op)+3)+"]"; got != want {
			t.Errorf("%q: %s", op, got)
		}
	}
}

// levels are the operators, rule by rule, those that bind least first.
func levels() [][]string {
	return [][]string{{"||"}, {"&&"}, {"==", "!="}, {"<", ">", "<=", ">="}, {"+", "-"}, {"*", "/"}}
}

// P12.1: of any two operators in a row that which binds more is within; of two of one rule the first.
func TestTwoOperators(t *testing.T) {
	for i, first := range levels() {
		for j, second := range levels() {
			for _, x := range first {
				for _, y := range second {
					text := "a " + x + " b " + y + " c"
					ax, ay := "@2", "@"+strconv.Itoa(len(x)+5)
					b, c := "name b@"+strconv.Itoa(len(x)+3), "name c@"+strconv.Itoa(len(x)+len(y)+6)
					want := "binary " + y + ay + "[binary " + x + ax + "[name a@0, " + b + "], " + c + "]"
					if j > i {
						want = "binary " + x + ax + "[name a@0, binary " + y + ay + "[" + b + ", " + c + "]]"
					}
					if got := expr(t, text); got != want {
						t.Errorf("%q\n is %s\nnot %s", text, got, want)
					}
				}
			}
		}
	}
}

// P12.1: what stands ahead of an assignment's sign is a NodeName or a NodeField, in whatever parentheses; else the sign can't stand there.
func TestPlaces(t *testing.T) {
	for _, op := range []string{"=", "+=", "-=", "*=", "/="} {
		for _, text := range []string{
			"1", "1.5", "true", "f()", "int(a)", "-a", "!a", "- -a.x", "a+b", "a*b", "a<b", "a==b", "a&&b", "a||b", "a?b:c", "a?b=c:d", "a?b:c.x", "a+b.x",
			"(1)", "(f())", "(-a)", "(a+b)", "((a+b))", "(a?b:c)", "(a=b)", "((a=b))", "(a.x=b)", "(a)+(b)", "-(a)", "a=1", "a=b+c", "a=b=-c", "a+=f()", "a=(b=c)",
			"f(1", "f(a,-b", "(a+b", "(a=b+c", "a?b+c", "a?-b", "int(1",
		} {
			wrong(t, "void main(){"+text+" "+op+"~ d;}")
			wrong(t, "void main(){return "+text+" "+op+"~ d;}")
			wrong(t, "void main(){if("+text+" "+op+"~ d);}")
			wrong(t, "int x="+text+" "+op+"~ d;")
			wrong(t, "void main(){float x="+text+" "+op+"~")
		}
		for _, text := range []string{"a", "a.x", "(a)", "((a))", "(a).x", "((a).x)", "(a=b).x", "f().x", "1 .x", "(a?b:c).x", "(-a).x", "a=b", "a.x+=b.y", "f(a", "f(1,a", "a?b", "(a", "(a=b"} {
			l := tokens(t, "void main(){"+text+" "+op)
			if _, spot := parse.Parse(l); spot != (api.Spot{Err: api.ErrParse, At: l[len(l)-1].At + len(op)}) {
				t.Errorf("%q, %q: %v", text, op, spot)
			}
		}
	}
}

// P12.1: what can't stand in an expression.
func TestWrongExprs(t *testing.T) {
	for _, text := range []string{
		"+~a", "++~a", "--~a", "a++~", "a--~", "a+;~", "a+*~", "a**~", "a!~", "a-;~", "-;~", "!;~", "-+~", "a?;~", "a?b;~", "a?b:;~", "a?:~", "a?b::~", "a:~", "a?b:c:~", "a?b:c=~",
		"()~", "(;~", "(a;~", "(a,~", "(a b~", "(a))~", "((a);~", "a.;~", "a..~", "a.1~", "a. .5~", "a.if~", "a.int~", "a.x(~", "a.x y~", "a.(~", "a.true~", "a.-~", "a[~",
		"f((a,~", "f(;~", "f(,~", "f(a,)~", "f(a b~", "f(a;~", "f(a))~", "f()(~", "f(int)~", "f(int a~", "f(a,,~", "f(a,int)~", "1(~", "1.5(~", "true(~", "(a)(~", "1 1~", "1 a~", "a 1~", "a true~", "true false~",
		"a=;~", "a==;~", "a= =~", "a=+~", "a<;~", "a<<~", "a< =~", "a>>~", "a&&;~", "a||;~", "a&&&&~", "(if~", "(for~", "a=if~", "a+return~", "a+discard~", "a+const~", "a+else~", "a+while~", "a{~", "a=}~", "a#~",
		"a.5~", "a+{~", "f({~", "=~", "a+]~", "a?b?c:d;~", "a?b=:~", "a?b=c=;~",
	} {
		wrong(t, "void main(){"+text)
	}
}

// P12.1: where a NAME must stand a reserved word can't; where one may stand it is none.
func TestReservedNames(t *testing.T) {
	for _, word := range reservedWords() {
		for _, ahead := range []string{
			"int ", "const int ", "int a,", "int f(int ", "int f(int a,int ", "void main(){int ", "void main(){const int ", "void main(){int a,", "void main(){for(int ", "void main(){for(int i=0;",
			"void main(){for(int i=0;i<1;", "void main(){a.", "void main(){a.x.",
		} {
			wrong(t, ahead+word+"~")
			wrong(t, ahead+word+"~ = 1;")
			wrong(t, ahead+word+"~ (")
		}
		if !slices.Contains(typeWords(), word) && word != "true" && word != "false" {
			for _, ahead := range []string{"(", "a=", "a+", "-", "f(", "f(a,", "a?", "a?b:", "if(", "return ", "int a=", "a=(b)*"} {
				wrong(t, "void main(){"+ahead+word+"~")
				wrong(t, "void main(){"+ahead+word+"~(")
			}
		}
	}
	for _, word := range []string{"main", "gl_Position", "Int", "mat2", "ints", "_", "If", "x1", "vec5", "texture2D", strings.Repeat("a", 32)} {
		n := strconv.Itoa(len(word) + 7)
		told(t, "int "+word+" = "+word+";", "shader@0[decl int@0[var "+word+"@4["+"name "+word+"@"+n+"]]]")
	}
}

// P12.1: tokens that end too early: at the end of the last one, however long it is, whatever blanks stand behind it.
func TestEndsEarly(t *testing.T) {
	for _, text := range []string{
		"attribute", "uniform", "const int", "int", "int main", "int a=", "int a=1", "int a=12345", "int a=1.25", "int a,", "void main(", "void main(int", "void main(int abc", "void main(int abc,", "void main()", "void main(){",
		"void main(){discard", "void main(){return", "void main(){return a", "void main(){;", "void main(){a", "void main(){a+=", "void main(){a<=", "void main(){a.", "void main(){a.xyz", "void main(){if", "void main(){if(", "void main(){if(a",
		"void main(){if(a)", "void main(){if(a);", "void main(){if(a);else", "void main(){for", "void main(){for(", "void main(){for(int", "void main(){for(int i", "void main(){for(int i=", "void main(){for(int i=-",
		"void main(){for(int i=-12", "void main(){for(int i=1;", "void main(){for(int i=1;i", "void main(){for(int i=1;i<", "void main(){for(int i=1;i<-", "void main(){for(int i=1;i<2", "void main(){for(int i=1;i<2;",
		"void main(){for(int i=1;i<2;i", "void main(){for(int i=1;i<2;i++", "void main(){for(int i=1;i<2;i++)", "void main(){a?", "void main(){a?b", "void main(){a?b:", "void main(){a?b:c", "void main(){(", "void main(){(a",
		"void main(){f(", "void main(){f(a", "void main(){f(a,", "void main(){vec4", "void main(){a=vec4", "void main(){-", "void main(){!", "void main(){true", "void main(){{", "void main(){{}", "void main(){const",
	} {
		for _, behind := range []string{"", " ", "\n\n", "// c", "/* c */ "} {
			refused(t, text+behind, api.ErrParse, len(text))
		}
	}
}

// P12.1: At is what the tokens say, in whatever order, also where several stand at one place.
func TestTokenPlaces(t *testing.T) {
	l, spot := pre.Run("#define D int a = 1 + 2 ;\n D")
	if spot != (api.Spot{}) {
		t.Fatal(spot)
	}
	x, spot := parse.Parse(l)
	if got := brief(t, x); spot != (api.Spot{}) || got != "shader@0[decl int@27[var a@27[binary +@27[int 1@27, int 2@27]]]]" {
		t.Error(got, spot)
	}
	if _, spot := parse.Parse(l[:6]); spot != (api.Spot{Err: api.ErrParse, At: 28}) {
		t.Error(spot)
	}
	l = tokens(t, "int a = 1 + 2 ; if")
	for i := range l {
		l[i].At, l[i].Line = 100-10*i, 3
	}
	x, _ = parse.Parse(l[:7])
	if got := brief(t, x); got != "shader@0[decl int@100[var a@90[binary +@60[int 1@70, int 2@50]]]]" {
		t.Error(got)
	}
	if _, spot := parse.Parse(l[:6]); spot != (api.Spot{Err: api.ErrParse, At: 51}) {
		t.Error(spot)
	}
	if _, spot := parse.Parse(l); spot != (api.Spot{Err: api.ErrParse, At: 30}) {
		t.Error(spot)
	}
	l[0].At = math.MaxInt
	if _, spot := parse.Parse(l[:1]); spot.Err != api.ErrParse {
		t.Error(spot)
	}
}
