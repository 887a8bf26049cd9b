package parse_test

import (
	"math"
	"regexp"
	"slices"
	"strings"
	"testing"

	"paintbox/api"
	"paintbox/fix"
	"paintbox/parse"
)

// twig is a node with its kids, out of which a tree is laid.
type twig struct {
	api.Node
	kids []twig
}

// tw answers a twig that says these.
func tw(kind int, word, text string, num api.Fix, kids ...twig) twig {
	return twig{api.Node{Kind: kind, Type: word, Text: text, Num: num}, kids}
}

// lay answers the tree of a twig, in order.
func (x twig) lay() api.Tree {
	var t api.Tree
	var put func(x twig)
	put = func(x twig) {
		n := len(t.Nodes)
		t.Nodes = append(t.Nodes, x.Node)
		for _, kid := range x.kids {
			t.Nodes[n].Kids = append(t.Nodes[n].Kids, len(t.Nodes))
			put(kid)
		}
	}
	put(x)
	return t
}

// sample answers a twig of a kind that may be.
func sample(kind int) twig {
	name, empty := tw(api.NodeName, "", "a", 0), tw(api.NodeEmpty, "", "", 0)
	switch kind {
	case api.NodeDecl:
		return tw(kind, "int", "", 0, sample(api.NodeVar))
	case api.NodeVar, api.NodeName:
		return tw(kind, "", "a", 0)
	case api.NodeFunc:
		return tw(kind, "void", "f", 0, sample(api.NodeBlock))
	case api.NodeParam:
		return tw(kind, "vec2", "b", 0)
	case api.NodeIf:
		return tw(kind, "", "", 0, name, empty, empty)
	case api.NodeFor:
		return tw(kind, "", "i", 0, sample(api.NodeInt), sample(api.NodeInt), empty)
	case api.NodeExpr:
		return tw(kind, "", "", 0, name)
	case api.NodeAssign:
		return tw(kind, "", "+=", 0, name, name)
	case api.NodeCond:
		return tw(kind, "", "", 0, name, name, name)
	case api.NodeBinary:
		return tw(kind, "", "*", 0, name, name)
	case api.NodeUnary:
		return tw(kind, "", "!", 0, name)
	case api.NodeCall:
		return tw(kind, "", "vec2", 0, name)
	case api.NodeField:
		return tw(kind, "", "x", 0, name)
	case api.NodeInt:
		return tw(kind, "", "", fix.Of(7))
	case api.NodeFloat:
		return tw(kind, "", "", 98304)
	case api.NodeBool:
		return tw(kind, "", "true", 0)
	}
	return tw(kind, "", "", 0)
}

// around answers a shader in which a twig stands where its kind may, and the twig's number there.
func around(x twig) (twig, int) {
	switch {
	case x.Kind == api.NodeShader:
		return x, 0
	case x.Kind == api.NodeDecl, x.Kind == api.NodeFunc:
		return tw(api.NodeShader, "", "", 0, x), 1
	case x.Kind == api.NodeVar:
		return tw(api.NodeShader, "", "", 0, tw(api.NodeDecl, "int", "", 0, x)), 2
	case x.Kind == api.NodeParam:
		return tw(api.NodeShader, "", "", 0, tw(api.NodeFunc, "int", "f", 0, x, sample(api.NodeBlock))), 2
	case x.Kind >= api.NodeAssign:
		shader, number := around(tw(api.NodeExpr, "", "", 0, x))
		return shader, number + 1
	}
	return tw(api.NodeShader, "", "", 0, tw(api.NodeFunc, "int", "f", 0, tw(api.NodeBlock, "", "", 0, x))), 3
}

// may asks whether Check takes a tree, or refuses it; and whether Print and Depth go with that.
func may(t *testing.T, x api.Tree, want bool) {
	t.Helper()
	err := parse.Check(x)
	text, printed := parse.Print(x)
	if (err == api.OK) != want || err != api.OK && err != api.ErrTree || printed != err || err != api.OK && text != "" || err != api.OK && parse.Depth(x) != 0 {
		t.Fatalf("Check(%v) is %d, Print %q, %d, Depth %d; want %v", x, err, text, printed, parse.Depth(x), want)
	}
}

// P12.2: of each kind a tree that may be; and none of kinds that there are not, nor two shaders.
func TestKinds(t *testing.T) {
	for kind := api.NodeShader; kind <= api.NodeBool; kind++ {
		shader, number := around(sample(kind))
		x := shader.lay()
		may(t, x, true)
		if x.Nodes[number].Kind != kind {
			t.Fatal(kind)
		}
		for _, other := range []int{math.MinInt, -1, 0, api.NodeBool + 1, 1 << 32, 1<<32 + kind, -kind, math.MaxInt} {
			y := shader.lay()
			y.Nodes[number].Kind = other
			may(t, y, false)
		}
		if number > 0 {
			y := shader.lay()
			y.Nodes[0].Kind = kind
			may(t, y, false)
			y = shader.lay()
			y.Nodes[number].Kind = api.NodeShader
			may(t, y, false)
		}
		may(t, api.Tree{Nodes: []api.Node{sample(kind).lay().Nodes[0]}}, kind == api.NodeShader)
	}
	may(t, api.Tree{}, false)
	may(t, api.Tree{Nodes: []api.Node{}}, false)
	may(t, api.Tree{Nodes: []api.Node{{}}}, false)
}

// letters are the kinds of nodes, each by one letter, from 1 on: shader, decl, var, func, param, block, if, for, return, discard, expr, empty, assign, cond, binary, unary, call, field, name, int, float, bool.
const letters = "SDVFPBIORXEMACNULGWTZQ"

// kidRules are which kids a node of each kind may have, as expressions of their letters.
func kidRules() []*regexp.Regexp {
	var l []*regexp.Regexp
	for _, rule := range strings.Split("[DF]* V+ e? P*B - s* ess? TTs e? - e - [WG]e eee ee e e* e - - - -", " ") {
		rule = strings.NewReplacer("e", "[ACNULGWTZQ]", "s", "[DBIORXEM]", "-", "").Replace(rule)
		l = append(l, regexp.MustCompile("^"+rule+"$"))
	}
	return l
}

// P12.2: of each kind all lists of up to two kids, and many of three and four: kids of a wrong kind, too many, too few.
func TestKids(t *testing.T) {
	rules := kidRules()
	var try func(kind int, kids []twig, word string, most int)
	try = func(kind int, kids []twig, word string, most int) {
		x := sample(kind)
		x.kids = kids
		shader, _ := around(x)
		may(t, shader.lay(), rules[kind-1].MatchString(word))
		if len(kids) == most {
			return
		}
		for i := range letters {
			try(kind, append(kids[:len(kids):len(kids)], sample(i+1)), word+letters[i:i+1], most)
		}
	}
	for kind := api.NodeShader; kind <= api.NodeBool; kind++ {
		most := 2
		if slices.Contains([]int{api.NodeIf, api.NodeFor, api.NodeCond, api.NodeFunc}, kind) {
			most = 3
		}
		try(kind, nil, "", most)
		x := sample(kind)
		if len(x.kids) == 0 {
			continue
		}
		word := ""
		for _, kid := range x.kids {
			word += letters[kid.Kind-1 : kid.Kind]
		}
		try(kind, append(slices.Clone(x.kids), x.kids[0]), word+word[:1], len(x.kids)+2)
	}
}

// P12.2: of each kind what Type, Text and Num may be: those of its tokens, and nothing where they must be empty.
func TestSays(t *testing.T) {
	texts := append(reservedWords(), "", "a", "main", "gl_X", "_", "x1", "Int", "1", "1.5", ".5", "a b", " a", "a ", "a\n", "a;", "a.x", "-a", "/**/a", "a//", "é", "a\x00", "\xff", "#", "@", "a"+strings.Repeat("b", 31), "a"+strings.Repeat("b", 32))
	texts = append(texts, strings.Split("( ) [ ] { } . , ; : ? + - * / < > = ! # == != <= >= && || ++ -- += -= *= /= & | % ^ === =+", " ")...)
	named := func(s string) bool {
		return regexp.MustCompile(`^[A-Za-z_][A-Za-z0-9_]{0,31}$`).MatchString(s) && !slices.Contains(reservedWords(), s)
	}
	typed := func(s string) bool { return slices.Contains(typeWords(), s) }
	of := func(list string) func(string) bool {
		return func(s string) bool { return slices.Contains(strings.Split(list, " "), s) }
	}
	empty := of("")
	for kind := api.NodeShader; kind <= api.NodeBool; kind++ {
		word, text := empty, empty
		switch kind {
		case api.NodeDecl:
			word, text = typed, of(" attribute uniform varying const")
		case api.NodeFunc, api.NodeParam:
			word, text = typed, named
		case api.NodeVar, api.NodeFor, api.NodeField, api.NodeName:
			text = named
		case api.NodeCall:
			text = func(s string) bool { return named(s) || typed(s) }
		case api.NodeAssign:
			text = of("= += -= *= /=")
		case api.NodeBinary:
			text = of("|| && == != < > <= >= + - * /")
		case api.NodeUnary:
			text = of("- !")
		case api.NodeBool:
			text = of("true false")
		}
		shader, number := around(sample(kind))
		for _, s := range texts {
			x := shader.lay()
			x.Nodes[number].Text = s
			may(t, x, text(s))
			x = shader.lay()
			x.Nodes[number].Type = s
			may(t, x, word(s))
		}
		for _, num := range []api.Fix{0, 1, -1, 65535, 65536, 65537, -65536, 131072, 98304, fix.Of(32766), fix.Of(32767), fix.Of(32767) + 1, fix.Of(-32767), -fix.Of(32767) - 1, api.Most, api.Most - 1, api.Least, api.Least + 1} {
			x := shader.lay()
			x.Nodes[number].Num = num
			switch kind {
			case api.NodeInt:
				may(t, x, num >= 0 && num%65536 == 0)
			case api.NodeFloat:
				may(t, x, num >= 0)
			default:
				may(t, x, num == 0)
			}
		}
	}
}

// P12.2: an int below 0 may be a bound of a for, down to -32767, and nothing else.
func TestBounds(t *testing.T) {
	empty := tw(api.NodeEmpty, "", "", 0)
	whole := func(n api.Fix) twig { return tw(api.NodeInt, "", "", n) }
	for _, num := range []api.Fix{0, 1, -1, 65536, -65536, -65535, -65537, fix.Of(32767), fix.Of(-32767), fix.Of(-32767) - 1, api.Most, api.Least, api.Least + 1, -98304} {
		good := num%65536 == 0 && num != api.Least
		for _, x := range []twig{tw(api.NodeFor, "", "i", 0, whole(num), whole(0), empty), tw(api.NodeFor, "", "i", 0, whole(0), whole(num), empty)} {
			shader, _ := around(x)
			may(t, shader.lay(), good)
		}
		for _, kind := range []int{api.NodeVar, api.NodeReturn, api.NodeExpr, api.NodeUnary, api.NodeCall, api.NodeField} {
			x := sample(kind)
			x.kids = []twig{whole(num)}
			shader, _ := around(x)
			may(t, shader.lay(), good && num >= 0)
		}
		for _, kind := range []int{api.NodeAssign, api.NodeCond, api.NodeBinary, api.NodeIf} {
			x := sample(kind)
			last := len(x.kids) - 1
			if kind == api.NodeIf {
				last = 0
			}
			x.kids = slices.Clone(x.kids)
			x.kids[last] = whole(num)
			shader, _ := around(x)
			may(t, shader.lay(), good && num >= 0)
		}
	}
}

// P12.2: attributes, uniforms and varyings are declared outside of functions alone.
func TestLocals(t *testing.T) {
	for _, word := range []string{"", "const", "attribute", "uniform", "varying"} {
		decl := tw(api.NodeDecl, "int", word, 0, sample(api.NodeVar))
		may(t, tw(api.NodeShader, "", "", 0, decl).lay(), true)
		local := word == "" || word == "const"
		name, whole := sample(api.NodeName), sample(api.NodeInt)
		for _, x := range []twig{
			tw(api.NodeBlock, "", "", 0, decl), tw(api.NodeBlock, "", "", 0, sample(api.NodeEmpty), decl), tw(api.NodeIf, "", "", 0, name, decl), tw(api.NodeIf, "", "", 0, name, decl, sample(api.NodeEmpty)),
			tw(api.NodeIf, "", "", 0, name, sample(api.NodeEmpty), decl), tw(api.NodeFor, "", "i", 0, whole, whole, decl),
		} {
			shader, _ := around(x)
			may(t, shader.lay(), local)
		}
	}
}

// P12.2: an else belongs to the last if that it can; a tree in which it belongs to another one is no tokens' tree.
func TestElseOfNone(t *testing.T) {
	name, empty, whole := sample(api.NodeName), sample(api.NodeEmpty), sample(api.NodeInt)
	one := func(x twig) twig { return tw(api.NodeIf, "", "", 0, name, x) }
	two := func(x, y twig) twig { return tw(api.NodeIf, "", "", 0, name, x, y) }
	loop := func(x twig) twig { return tw(api.NodeFor, "", "i", 0, whole, whole, x) }
	block := func(x twig) twig { return tw(api.NodeBlock, "", "", 0, x) }
	for i, x := range []twig{
		one(one(empty)), one(two(empty, empty)), two(empty, one(empty)), two(two(empty, empty), empty), two(block(one(empty)), empty), two(loop(empty), one(empty)), two(loop(block(one(empty))), empty),
		two(loop(two(empty, empty)), empty), one(loop(one(empty))), two(two(two(empty, empty), empty), empty), two(two(block(one(empty)), block(one(empty))), empty), loop(one(empty)), two(empty, two(empty, one(empty))),
	} {
		shader, _ := around(x)
		if parse.Check(shader.lay()) != api.OK {
			t.Error("good", i)
		}
		may(t, shader.lay(), true)
	}
	for i, x := range []twig{
		two(one(empty), empty), two(two(empty, one(empty)), empty), two(loop(one(empty)), empty), two(one(two(empty, empty)), empty), two(one(one(empty)), empty), two(loop(loop(one(empty))), empty),
		two(two(empty, two(empty, one(empty))), empty), two(loop(two(empty, loop(one(empty)))), empty), one(two(one(empty), empty)), two(empty, two(one(empty), empty)), block(two(one(empty), empty)), two(two(one(empty), empty), empty),
	} {
		shader, _ := around(x)
		if parse.Check(shader.lay()) != api.ErrTree {
			t.Error("bad", i)
		}
		may(t, shader.lay(), false)
	}
}

// P12.2: places are from 0 on, of each node; else they are not asked, the shader's neither.
func TestAts(t *testing.T) {
	shader, _ := around(tw(api.NodeFor, "", "i", 0, sample(api.NodeInt), sample(api.NodeInt), sample(api.NodeIf)))
	x := shader.lay()
	for i := range x.Nodes {
		for _, at := range []int{0, 1, 7, api.MaxText, math.MaxInt, -1, -2, math.MinInt} {
			y := shader.lay()
			y.Nodes[i].At = at
			may(t, y, at >= 0)
		}
	}
}

// P12.2: kids out of order, nodes that nobody has as a kid, or two, kids that are no nodes.
func TestOrder(t *testing.T) {
	shader := tw(api.NodeShader, "", "", 0, sample(api.NodeDecl), tw(api.NodeFunc, "void", "f", 0, tw(api.NodeBlock, "", "", 0, sample(api.NodeEmpty), sample(api.NodeIf), sample(api.NodeExpr))), sample(api.NodeDecl))
	whole := shader.lay()
	may(t, whole, true)
	clone := func() api.Tree {
		x := api.Tree{Nodes: slices.Clone(whole.Nodes)}
		for i := range x.Nodes {
			x.Nodes[i].Kids = slices.Clone(x.Nodes[i].Kids)
		}
		return x
	}
	n := len(whole.Nodes)
	for i := range n {
		for k := range whole.Nodes[i].Kids {
			for _, to := range []int{math.MinInt, -1, 0, 1, 2, 3, 4, 5, 6, 7, 8, 9, 10, n - 1, n, n + 1, math.MaxInt} {
				x := clone()
				x.Nodes[i].Kids[k] = to
				may(t, x, to == whole.Nodes[i].Kids[k])
			}
			x := clone()
			x.Nodes[i].Kids = slices.Delete(x.Nodes[i].Kids, k, k+1)
			may(t, x, false)
			x = clone()
			x.Nodes[i].Kids = slices.Insert(x.Nodes[i].Kids, k, x.Nodes[i].Kids[k])
			may(t, x, false)
			if k > 0 {
				x = clone()
				x.Nodes[i].Kids[k], x.Nodes[i].Kids[k-1] = x.Nodes[i].Kids[k-1], x.Nodes[i].Kids[k]
				may(t, x, false)
			}
		}
		for _, to := range []int{-1, 0, i, i + 1, n - 1, n} {
			x := clone()
			x.Nodes[i].Kids = append(x.Nodes[i].Kids, to)
			may(t, x, false)
		}
		x := clone()
		x.Nodes = slices.Delete(x.Nodes, i, i+1)
		may(t, x, false)
		x = clone()
		x.Nodes = slices.Insert(x.Nodes, i, x.Nodes[i])
		may(t, x, false)
	}
	may(t, api.Tree{Nodes: append(clone().Nodes, api.Node{Kind: api.NodeDiscard})}, false)
	may(t, api.Tree{Nodes: whole.Nodes[:n-1]}, false)
	may(t, api.Tree{Nodes: []api.Node{{Kind: api.NodeShader, Kids: []int{0}}}}, false)
	may(t, api.Tree{Nodes: []api.Node{{Kind: api.NodeShader, Kids: []int{}}}}, true)
	// A tree whose kids stand ahead of what stands between: breadth first.
	broad := tw(api.NodeShader, "", "", 0, sample(api.NodeDecl), sample(api.NodeDecl)).lay()
	may(t, broad, true)
	broad.Nodes = []api.Node{{Kind: api.NodeShader, Kids: []int{1, 2}}, broad.Nodes[1], broad.Nodes[3], broad.Nodes[2], broad.Nodes[4]}
	broad.Nodes[1].Kids, broad.Nodes[2].Kids = []int{3}, []int{4}
	may(t, broad, false)
}

// many answers a tree of n nodes with a row of statements.
func many(n int) api.Tree {
	block := tw(api.NodeBlock, "", "", 0)
	for range n - 3 {
		block.kids = append(block.kids, sample(api.NodeEmpty))
	}
	return tw(api.NodeShader, "", "", 0, tw(api.NodeFunc, "void", "f", 0, block)).lay()
}

// P12.2: trees of MaxNodes nodes, of more tokens than Parse takes, and of one node more.
func TestMaxNodes(t *testing.T) {
	may(t, many(api.MaxNodes-1), true)
	may(t, many(api.MaxNodes), true)
	may(t, many(api.MaxNodes+1), false)
	may(t, many(100000), false)
	text, err := parse.Print(many(api.MaxNodes))
	if err != api.OK || text != "void f ( ) {\n"+strings.Repeat(";\n", api.MaxNodes-3)+"}" {
		t.Error(len(text), err)
	}
	if parse.Depth(many(api.MaxNodes)) != 3 || parse.Depth(many(api.MaxNodes+1)) != 0 {
		t.Error("Depth")
	}
	call := tw(api.NodeCall, "", "f", 0)
	for range api.MaxNodes - 5 {
		call.kids = append(call.kids, sample(api.NodeInt))
	}
	shader, _ := around(call)
	x := shader.lay()
	if text, err := parse.Print(x); len(x.Nodes) != api.MaxNodes || err != api.OK || text != "int f ( ) {\nf ( 7"+strings.Repeat(" , 7", api.MaxNodes-6)+" ) ;\n}" {
		t.Error(len(x.Nodes), len(text), err)
	}
	call.kids = append(call.kids, sample(api.NodeInt))
	shader, _ = around(call)
	may(t, shader.lay(), false)
}

// P12.2: trees that are too deep may not be, by one or by all their nodes.
func TestTooDeep(t *testing.T) {
	for _, n := range []int{1, 27, 28, 29, 30, 31, 100, api.MaxNodes - 5, api.MaxNodes, 1 << 16} {
		unary, block := api.Tree{}, api.Tree{}
		unary.Nodes = []api.Node{{Kind: api.NodeShader, Kids: []int{1}}, {Kind: api.NodeFunc, Type: "void", Text: "f", Kids: []int{2}}, {Kind: api.NodeBlock, Kids: []int{3}}, {Kind: api.NodeExpr, Kids: []int{4}}}
		for range n {
			unary.Nodes = append(unary.Nodes, api.Node{Kind: api.NodeUnary, Text: "-", Kids: []int{len(unary.Nodes) + 1}})
		}
		unary.Nodes = append(unary.Nodes, api.Node{Kind: api.NodeName, Text: "a"})
		may(t, unary, n <= 28)
		block.Nodes = append(block.Nodes, unary.Nodes[:2]...)
		for range n {
			block.Nodes = append(block.Nodes, api.Node{Kind: api.NodeBlock, Kids: []int{len(block.Nodes) + 1}})
		}
		block.Nodes = append(block.Nodes, api.Node{Kind: api.NodeEmpty})
		may(t, block, n <= 30)
		if n <= 28 && parse.Depth(unary) != n+4 || n <= 30 && parse.Depth(block) != n+2 {
			t.Error(n, parse.Depth(unary), parse.Depth(block))
		}
	}
}
