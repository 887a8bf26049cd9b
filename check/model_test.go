package check_test

import (
	"slices"
	"strings"
	"testing"

	"paintbox/api"
	"paintbox/check"
	"paintbox/fix"
	"paintbox/kinds"
	"paintbox/parse"
)

// model goes by the chapter's words another way: each node knows its parent, and what a name means is looked for among all nodes whose name has been given by then. What is wrong leaves by a panic.
type model struct {
	api.Checked
	parent []int
	given  []int // the scope in which a node's name is given; none, if it is not yet
}

const none = -1

// inOwn is the number of the scope of a statement of an if or a for.
func inOwn(statement int) int { return statement + 1<<20 }

// modelled answers what the model tells of a tree that may be.
func modelled(x api.Tree, stage int) (c api.Checked, spot api.Spot) {
	n := len(x.Nodes)
	m := &model{Checked: api.Checked{Tree: x, Stage: stage, Types: make([]api.Type, n), Uses: make([]int, n), Fns: make([]int, n)}, parent: make([]int, n), given: make([]int, n)}
	for i, node := range x.Nodes {
		m.Uses[i], m.given[i] = -1, none
		for _, kid := range node.Kids {
			m.parent[kid] = i
		}
	}
	defer func() {
		if r := recover(); r != nil {
			c, spot = api.Checked{}, r.(api.Spot)
		}
	}()
	m.walk(0)
	return m.Checked, spot
}

func (m *model) kind(i int) int    { return m.Tree.Nodes[i].Kind }
func (m *model) text(i int) string { return m.Tree.Nodes[i].Text }
func (m *model) kids(i int) []int  { return m.Tree.Nodes[i].Kids }

// ahead answers the word ahead of a NodeVar's type; "?" of other nodes.
func (m *model) ahead(i int) string {
	if i < 0 || m.kind(i) != api.NodeVar {
		return "?"
	}
	return m.text(m.parent[i])
}

// must leaves, if something does not hold of a node.
func (m *model) must(holds bool, err api.Errno, i int) {
	if !holds {
		panic(api.Spot{Err: err, At: m.Tree.Nodes[i].At})
	}
}

// scopes answers the scopes in which a node stands, the innermost one first.
func (m *model) scopes(i int) []int {
	var l []int
	for i != 0 {
		p := m.parent[i]
		if k := m.kind(p); i != m.kids(p)[0] && (k == api.NodeIf || k == api.NodeFor) && m.kind(i) != api.NodeInt {
			l = append(l, inOwn(i))
		}
		switch {
		case m.kind(p) == api.NodeBlock && m.kind(m.parent[p]) != api.NodeFunc, m.kind(p) == api.NodeFunc, m.kind(p) == api.NodeFor, p == 0:
			l = append(l, p)
		}
		i = p
	}
	return l
}

// give gives a node's name in a scope.
func (m *model) give(i, scope int) {
	name := m.text(i)
	for j := range m.given {
		m.must(m.given[j] != scope || m.text(j) != name, api.ErrName, i)
	}
	m.must(!kinds.Builtin(name) && (len(name) < 3 || name[:3] != "gl_"), api.ErrName, i)
	m.given[i] = scope
}

// means answers what the name at a node means; -1, if nothing.
func (m *model) means(i int) int {
	for _, scope := range m.scopes(i) {
		for j, where := range m.given {
			if where == scope && m.text(j) == m.text(i) {
				return j
			}
		}
	}
	all := [][]string{1: {"gl_Position", "gl_PointSize"}, 2: {"", "", "gl_FragCoord", "gl_FrontFacing", "gl_PointCoord", "gl_FragColor"}}
	if at := slices.Index(all[m.Stage], m.text(i)); at >= 0 {
		return -2 - at
	}
	return -1
}

// word answers the type of a word.
func word(s string) api.Type {
	t, _ := kinds.Of(s)
	return t
}

// walk walks a node, as its row of the table says.
func (m *model) walk(i int) {
	kids, text := m.kids(i), m.text(i)
	all := func(l []int) {
		for _, kid := range l {
			m.walk(kid)
		}
	}
	switch m.kind(i) {
	case api.NodeShader:
		all(kids)
		m.Main = slices.IndexFunc(m.Tree.Nodes, func(n api.Node) bool { return n.Kind == api.NodeFunc && n.Text == "main" })
		if m.Main < 0 {
			panic(api.Spot{Err: api.ErrMain})
		}
	case api.NodeVar:
		m.variable(i)
	case api.NodeFunc:
		m.Types[i] = word(m.Tree.Nodes[i].Type)
		m.must(m.Tree.Nodes[i].Type != "sampler2D", api.ErrType, i)
		m.must(text != "main" || m.Tree.Nodes[i].Type == "void" && len(kids) == 1, api.ErrMain, i)
		all(kids)
		m.give(i, 0)
	case api.NodeParam:
		m.Types[i] = word(m.Tree.Nodes[i].Type)
		m.must(m.Tree.Nodes[i].Type != "void", api.ErrType, i)
		m.give(i, m.scopes(i)[0])
	case api.NodeIf:
		m.walk(kids[0])
		m.must(m.Types[kids[0]] == word("bool"), api.ErrType, i)
		all(kids[1:])
	case api.NodeFor:
		m.must(int64(m.Tree.Nodes[kids[1]].Num)-int64(m.Tree.Nodes[kids[0]].Num) <= 64<<16, api.ErrLoop, i)
		m.Types[i] = word("int")
		m.give(i, i)
		all(kids)
	case api.NodeReturn:
		all(kids)
		f := i
		for m.kind(f) != api.NodeFunc {
			f = m.parent[f]
		}
		m.must(m.Types[f] == word("void") && len(kids) == 0 || m.Types[f] != word("void") && len(kids) == 1 && m.Types[kids[0]] == m.Types[f], api.ErrType, i)
	case api.NodeDiscard:
		m.must(m.Stage == fragment, api.ErrPlace, i)
	case api.NodeDecl, api.NodeBlock, api.NodeExpr, api.NodeEmpty:
		all(kids)
	default:
		all(kids)
		m.expr(i)
	}
}

func (m *model) variable(i int) {
	kids, ahead, kind := m.kids(i), m.ahead(i), m.Tree.Nodes[m.parent[i]].Type
	m.Types[i] = word(kind)
	outer := m.parent[m.parent[i]] == 0
	m.must(kind != "void", api.ErrType, i)
	m.must(kind != "sampler2D" || ahead == "uniform", api.ErrType, i)
	if ahead == "attribute" {
		m.must(m.Stage == vertex, api.ErrPlace, i)
		m.must(isFloat(kind), api.ErrType, i)
	}
	m.must(ahead != "varying" || isFloat(kind), api.ErrType, i)
	m.must(ahead == "" || ahead == "const" || len(kids) == 0, api.ErrValue, i)
	m.must(ahead != "const" || len(kids) == 1, api.ErrValue, i)
	if len(kids) == 1 {
		m.walk(kids[0])
		m.must(m.Types[kids[0]] == m.Types[i], api.ErrType, i)
		m.must(ahead == "" && !outer || m.constant(kids[0]), api.ErrValue, i)
	}
	m.give(i, m.scopes(i)[0])
	switch ahead {
	case "attribute":
		m.Attribs = append(m.Attribs, i)
	case "uniform":
		m.Uniforms = append(m.Uniforms, i)
	case "varying":
		m.Varyings = append(m.Varyings, i)
	}
	m.must(len(m.Attribs) <= 8 && len(m.Uniforms) <= 32 && len(m.Varyings) <= 4, api.ErrLong, i)
}

func (m *model) expr(i int) {
	kids, text := m.kids(i), m.text(i)
	var l []api.Type
	for _, kid := range kids {
		l = append(l, m.Types[kid])
	}
	err := api.OK
	switch m.kind(i) {
	case api.NodeAssign:
		m.must(m.writable(kids[0]), api.ErrPlace, i)
		m.Types[i], err = kinds.Assign(text, l[0], l[1])
	case api.NodeCond:
		m.Types[i], err = kinds.Cond(l[0], l[1], l[2])
	case api.NodeBinary:
		m.Types[i], err = kinds.Binary(text, l[0], l[1])
	case api.NodeUnary:
		m.Types[i], err = kinds.Unary(text, l[0])
	case api.NodeField:
		m.must(l[0] != word("void") && l[0] != word("sampler2D"), api.ErrType, i)
		m.Types[i], _, err = kinds.Field(l[0], text)
		m.must(err == api.OK, api.ErrField, i)
	case api.NodeCall:
		m.call(i, l)
	case api.NodeName:
		use := m.means(i)
		m.must(use != -1 && (use < 0 || m.kind(use) != api.NodeFunc), api.ErrName, i)
		m.Uses[i] = use
		if use >= 0 {
			m.Types[i] = m.Types[use]
		} else {
			m.Types[i] = word(strings.Fields("vec4 float vec4 bool vec2 vec4")[-2-use])
		}
	case api.NodeInt:
		m.Types[i] = word("int")
	case api.NodeFloat:
		m.Types[i] = word("float")
	case api.NodeBool:
		m.Types[i] = word("bool")
	}
	m.must(err == api.OK, api.ErrType, i)
}

func (m *model) call(i int, l []api.Type) {
	err := api.OK
	if parse.Type(m.text(i)) || kinds.Builtin(m.text(i)) {
		m.Types[i], m.Fns[i], err = kinds.Call(m.text(i), l)
		m.must(err == api.OK, api.ErrType, i)
		return
	}
	use := m.means(i)
	m.must(use >= 0 && m.kind(use) == api.NodeFunc && m.text(use) != "main", api.ErrName, i)
	m.must(len(m.kids(use)) == len(l)+1, api.ErrType, i)
	for k, t := range l {
		m.must(word(m.Tree.Nodes[m.kids(use)[k]].Type) == t, api.ErrType, i)
	}
	m.Uses[i], m.Types[i] = use, m.Types[use]
}

// constant tells whether a node is a constant expression: each of its leaves is, and nothing but these kinds stands above them.
func (m *model) constant(i int) bool {
	for _, kid := range m.kids(i) {
		if !m.constant(kid) {
			return false
		}
	}
	switch m.kind(i) {
	case api.NodeName:
		return m.ahead(m.Uses[i]) == "const"
	case api.NodeCall:
		return m.Uses[i] < 0 && m.text(i) != "texture2D"
	}
	return m.kind(i) >= api.NodeCond
}

// writable tells whether a node may be written.
func (m *model) writable(i int) bool {
	for m.kind(i) == api.NodeField {
		at := m.kids(i)[0]
		_, places, _ := kinds.Field(m.Types[at], m.text(i))
		slices.Sort(places)
		if len(slices.Compact(places)) != len(m.text(i)) {
			return false
		}
		i = at
	}
	use := m.Uses[i]
	if m.kind(i) != api.NodeName {
		return false
	}
	return m.ahead(use) == "" || m.ahead(use) == "varying" && m.Stage == vertex || use >= 0 && m.kind(use) == api.NodeParam || use == -2 || use == -3 || use == -7
}

// holdsAgainst holds Check against the model; it answers what was told.
func holdsAgainst(t *testing.T, x api.Tree, stage int) (api.Checked, api.Spot) {
	t.Helper()
	c, spot := check.Check(x, stage)
	want, wantSpot := modelled(x, stage)
	if spot != wantSpot || !check.Same(c, want) {
		text, _ := parse.Print(x)
		t.Fatalf("stage %d\n%s\n%v, not %v\n%v\nnot\n%v", stage, text, spot, wantSpot, c, want)
	}
	return c, spot
}

// P14.1, P14.2, P14.3: chance shaders, most of them nearly right, held against the model.
func TestChanceShaders(t *testing.T) {
	told := map[api.Errno]int{}
	for seed := range 6000 {
		w := &writer{chance: chance(seed), stage: 1 + seed%2, slips: []int{0, 400, 150, 40}[seed/2%4]}
		text := w.shader()
		l, spot := lexed(text)
		x, wrong := parse.Parse(l)
		if spot != (api.Spot{}) || wrong != (api.Spot{}) {
			told[-1]++
			continue
		}
		for _, stage := range both() {
			c, spot := holdsAgainst(t, x, stage)
			told[spot.Err]++
			if spot.Err == api.OK && seed%30 < 2 {
				askNodes(t, c)
			}
			if w.slips == 0 && stage == w.stage && spot.Err != api.OK {
				t.Fatalf("stage %d\n%s\n%v", stage, text, spot)
			}
		}
	}
	for _, err := range []api.Errno{api.OK, api.ErrType, api.ErrField, api.ErrName, api.ErrPlace, api.ErrLoop, api.ErrMain, api.ErrValue, api.ErrLong} {
		if told[err] < 20 {
			t.Errorf("error %d was told %d times", err, told[err])
		}
	}
	if told[-1] > 1500 {
		t.Error("texts that are no shaders:", told[-1])
	}
}

// askNodes holds Constant and Writable of all nodes against the model.
func askNodes(t *testing.T, c api.Checked) {
	t.Helper()
	m := &model{Checked: c, parent: make([]int, len(c.Tree.Nodes))}
	for i, n := range c.Tree.Nodes {
		for _, kid := range n.Kids {
			m.parent[kid] = i
		}
	}
	for i, n := range c.Tree.Nodes {
		isExpr := n.Kind >= api.NodeAssign
		if check.Constant(c, i) != (isExpr && m.constant(i)) || check.Writable(c, i) != (isExpr && m.writable(i)) {
			text, _ := parse.Print(c.Tree)
			t.Fatalf("stage %d\n%s\nnode %d, %s: %v, %v", c.Stage, text, i, kindNames[n.Kind], check.Constant(c, i), check.Writable(c, i))
		}
	}
}

// P14.1: chance trees: of shaders that are taken a node's Type, Text or Num is changed; what comes may be a tree or not.
func TestChanceTrees(t *testing.T) {
	c := chance(1)
	texts := []string{"", "a", "b", "x", "xy", "xx", "f", "main", "abs", "mix", "texture2D", "gl_FragColor", "gl_Position", "+", "<", "&&", "-", "!", "=", "+=", "const", "uniform", "varying", "attribute", "vec2", "float", "int", "true"}
	told := map[api.Errno]int{}
	for seed := range 3000 {
		w := &writer{chance: chance(seed), stage: 1 + seed%2}
		l, _ := lexed(w.shader())
		x, wrong := parse.Parse(l)
		if wrong != (api.Spot{}) {
			continue
		}
		for range 6 {
			y := api.Tree{Nodes: slices.Clone(x.Nodes)}
			n := &y.Nodes[c.below(len(y.Nodes))]
			switch c.below(4) {
			case 0:
				n.Type = c.of(words()...)
			case 1, 2:
				n.Text = c.of(texts...)
			case 3:
				n.Num = fix.Of(c.below(200) - 100)
			}
			if parse.Check(y) == api.OK {
				_, spot := holdsAgainst(t, y, w.stage)
				told[spot.Err]++
			} else {
				told[api.ErrTree]++
				spotted(t, y, w.stage, api.Spot{Err: api.ErrTree})
			}
		}
	}
	for _, err := range []api.Errno{api.OK, api.ErrTree, api.ErrType, api.ErrField, api.ErrName, api.ErrPlace, api.ErrLoop, api.ErrMain, api.ErrValue} {
		if told[err] < 10 {
			t.Errorf("error %d was told %d times", err, told[err])
		}
	}
}
