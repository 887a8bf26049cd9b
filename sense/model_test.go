package sense_test

import (
	"math/big"
	"strings"
	"testing"

	"paintbox/api"
	"paintbox/fix"
	"paintbox/lex"
	"paintbox/maths"
	"paintbox/parse"
	"paintbox/sample"
	"paintbox/sense"
)

// holding is a value that knows what it is: float, int, bool or sampler2D, and as many numbers as it has.
type holding struct {
	base string
	x    []api.Fix
}

// machine goes by the chapter's words another way: it knows the tree alone, finds variables by their names in the scopes that are open, writes by pointers, and leaves functions and the whole run by panics.
type machine struct {
	nodes  []api.Node
	whole  map[string]holding
	scopes []map[string]holding
	images []api.Image
}

// returned is what leaves a function, discarded what leaves all.
type (
	returned  struct{ holding }
	discarded struct{}
)

// values answers the words of all types of which there are values.
func values() []string {
	return strings.Fields("float vec2 vec3 vec4 int ivec2 ivec3 ivec4 bool bvec2 bvec3 bvec4")
}

// baseOf answers the word of one number of a type.
func baseOf(kind string) string {
	switch kind[0] {
	case 'f', 'v':
		return "float"
	case 'i':
		return "int"
	case 'b':
		return "bool"
	}
	return kind
}

// sizeOf answers how many numbers a type has.
func sizeOf(kind string) int {
	if n := int(kind[len(kind)-1] - '0'); n >= 2 && n <= 4 {
		return n
	}
	return 1
}

// noughts answers a new value of a type.
func noughts(kind string) holding {
	return holding{baseOf(kind), make([]api.Fix, sizeOf(kind))}
}

// handed answers the value of a type that a vector is.
func handed(kind string, v api.Vec) holding {
	h := noughts(kind)
	for i := range h.x {
		h.x[i] = v[i]
		if h.base == "bool" && v[i] != 0 {
			h.x[i] = 1
		}
	}
	return h
}

// at answers the number at a place; a plain value's number stands in all.
func (h holding) at(i int) api.Fix {
	if len(h.x) == 1 {
		return h.x[0]
	}
	return h.x[i]
}

// vector answers the numbers as a vector.
func (h holding) vector() api.Vec {
	var v api.Vec
	copy(v[:], h.x)
	return v
}

// modelled answers what comes of a run of a tree that Check takes.
func modelled(x api.Tree, stage int, e api.Env) (result api.Result) {
	m := &machine{nodes: x.Nodes, whole: map[string]holding{}, images: e.Images}
	built := m.built(stage, e)
	m.scopes = []map[string]holding{built, m.whole}
	varyings := m.declareWhole(stage, e)
	for i, n := range m.nodes {
		if n.Kind == api.NodeFunc && n.Text == "main" && m.ends(func() { m.call(i, nil) }) {
			return api.Result{Discard: true}
		}
	}
	if stage == fragment {
		return api.Result{Color: built["gl_FragColor"].vector()}
	}
	result = api.Result{Position: built["gl_Position"].vector(), Size: built["gl_PointSize"].x[0]}
	for _, name := range varyings {
		result.Varyings = append(result.Varyings, m.whole[name].vector())
	}
	return result
}

// ends tells whether all ended within what is done.
func (m *machine) ends(do func()) (yes bool) {
	defer func() {
		if r := recover(); r != nil {
			_, yes = r.(discarded)
			if !yes {
				panic(r)
			}
		}
	}()
	do()
	return false
}

// built answers the built-in variables of a stage.
func (m *machine) built(stage int, e api.Env) map[string]holding {
	if stage == vertex {
		return map[string]holding{"gl_Position": noughts("vec4"), "gl_PointSize": noughts("float")}
	}
	front := noughts("bool")
	if e.Front {
		front.x[0] = 1
	}
	return map[string]holding{"gl_FragCoord": handed("vec4", e.Coord), "gl_FrontFacing": front, "gl_PointCoord": handed("vec2", e.Point), "gl_FragColor": noughts("vec4")}
}

// declareWhole declares what stands in no function; it answers the varyings' names.
func (m *machine) declareWhole(stage int, e api.Env) []string {
	var varyings []string
	lists := map[string][]api.Vec{"attribute": e.Attribs, "uniform": e.Uniforms, "varying": e.Varyings}
	if stage == vertex {
		lists["varying"] = make([]api.Vec, api.MaxVaryings)
	}
	for _, kid := range m.nodes[0].Kids {
		decl := m.nodes[kid]
		if decl.Kind != api.NodeDecl {
			continue
		}
		if decl.Text == "" || decl.Text == "const" {
			m.statement(kid)
			continue
		}
		for _, variable := range decl.Kids {
			name := m.nodes[variable].Text
			m.whole[name] = handed(decl.Type, lists[decl.Text][0])
			lists[decl.Text] = lists[decl.Text][1:]
			if decl.Text == "varying" {
				varyings = append(varyings, name)
			}
		}
	}
	return varyings
}

// scoped does something in a scope of its own.
func (m *machine) scoped(do func()) {
	m.scopes = append(m.scopes, map[string]holding{})
	do()
	m.scopes = m.scopes[:len(m.scopes)-1]
}

// give gives a name in the innermost scope.
func (m *machine) give(name string, h holding) {
	m.scopes[len(m.scopes)-1][name] = holding{h.base, append([]api.Fix{}, h.x...)}
}

// find answers what a name means.
func (m *machine) find(name string) holding {
	for i := len(m.scopes) - 1; ; i-- {
		if h, is := m.scopes[i][name]; is {
			return h
		}
	}
}

// call calls a function.
func (m *machine) call(function int, args []holding) (h holding) {
	n := m.nodes[function]
	h = holding{"void", nil}
	if n.Type != "void" {
		h = noughts(n.Type)
	}
	scopes := m.scopes
	defer func() {
		m.scopes = scopes
		if r := recover(); r != nil {
			back, is := r.(returned)
			if !is {
				panic(r)
			}
			h = back.holding
		}
	}()
	m.scopes = []map[string]holding{scopes[0], scopes[1], {}}
	for i, arg := range args {
		m.give(m.nodes[n.Kids[i]].Text, arg)
	}
	for _, kid := range m.nodes[n.Kids[len(n.Kids)-1]].Kids {
		m.statement(kid)
	}
	return h
}

// statement does a statement.
func (m *machine) statement(i int) {
	n := m.nodes[i]
	switch n.Kind {
	case api.NodeDecl:
		for _, kid := range n.Kids {
			h := noughts(n.Type)
			if v := m.nodes[kid]; len(v.Kids) > 0 {
				h = m.expr(v.Kids[0])
			}
			m.give(m.nodes[kid].Text, h)
		}
	case api.NodeBlock:
		m.scoped(func() {
			for _, kid := range n.Kids {
				m.statement(kid)
			}
		})
	case api.NodeIf:
		if h := m.expr(n.Kids[0]); h.x[0] != 0 {
			m.scoped(func() { m.statement(n.Kids[1]) })
		} else if len(n.Kids) > 2 {
			m.scoped(func() { m.statement(n.Kids[2]) })
		}
	case api.NodeFor:
		for k := m.nodes[n.Kids[0]].Num / one; k < m.nodes[n.Kids[1]].Num/one; k++ {
			m.scoped(func() {
				m.give(n.Text, holding{"int", []api.Fix{k}})
				m.scoped(func() { m.statement(n.Kids[2]) })
			})
		}
	case api.NodeReturn:
		back := holding{"void", nil}
		if len(n.Kids) > 0 {
			back = m.expr(n.Kids[0])
		}
		panic(returned{back})
	case api.NodeDiscard:
		panic(discarded{})
	case api.NodeExpr:
		m.expr(n.Kids[0])
	}
}

// slots answers where the numbers of a place stand.
func (m *machine) slots(i int) []*api.Fix {
	n := m.nodes[i]
	var l []*api.Fix
	if n.Kind == api.NodeName {
		h := m.find(n.Text)
		for k := range h.x {
			l = append(l, &h.x[k])
		}
		return l
	}
	all := m.slots(n.Kids[0])
	for _, place := range letters(n.Text) {
		l = append(l, all[place])
	}
	return l
}

// letters answers the places that a field's name says.
func letters(name string) []int {
	var l []int
	for _, letter := range name {
		l = append(l, strings.IndexRune("xyzwrgbastpq", letter)%4)
	}
	return l
}

// expr does an expression.
func (m *machine) expr(i int) holding {
	n := m.nodes[i]
	switch n.Kind {
	case api.NodeInt:
		return holding{"int", []api.Fix{n.Num / one}}
	case api.NodeFloat:
		return holding{"float", []api.Fix{n.Num}}
	case api.NodeBool:
		return yes(n.Text == "true")
	case api.NodeName:
		h := m.find(n.Text)
		return holding{h.base, append([]api.Fix{}, h.x...)}
	case api.NodeField:
		h := m.expr(n.Kids[0])
		picked := holding{h.base, nil}
		for _, place := range letters(n.Text) {
			picked.x = append(picked.x, h.x[place])
		}
		return picked
	case api.NodeUnary:
		h := m.expr(n.Kids[0])
		if n.Text == "!" {
			return yes(h.x[0] == 0)
		}
		return between("-", noughts(map[bool]string{true: "float", false: "int"}[h.base == "float"]), h)
	case api.NodeBinary:
		return m.binary(n)
	case api.NodeCond:
		if m.expr(n.Kids[0]).x[0] != 0 {
			return m.expr(n.Kids[1])
		}
		return m.expr(n.Kids[2])
	case api.NodeAssign:
		return m.assign(n)
	}
	return m.calls(n)
}

// yes answers a bool.
func yes(holds bool) holding {
	if holds {
		return holding{"bool", []api.Fix{1}}
	}
	return holding{"bool", []api.Fix{0}}
}

func (m *machine) binary(n api.Node) holding {
	a := m.expr(n.Kids[0])
	switch {
	case n.Text == "&&" && a.x[0] != 0, n.Text == "||" && a.x[0] == 0:
		return m.expr(n.Kids[1])
	case n.Text == "&&", n.Text == "||":
		return a
	}
	return between(n.Text, a, m.expr(n.Kids[1]))
}

// between does an operator between two values.
func between(op string, a, b holding) holding {
	same := a.vector() == b.vector()
	switch op {
	case "<":
		return yes(a.x[0] < b.x[0])
	case ">":
		return yes(b.x[0] < a.x[0])
	case "<=":
		return yes(!(b.x[0] < a.x[0]))
	case ">=":
		return yes(!(a.x[0] < b.x[0]))
	case "==":
		return yes(same)
	case "!=":
		return yes(!same)
	}
	h := holding{a.base, nil}
	for i := range max(len(a.x), len(b.x)) {
		if a.base == "float" {
			h.x = append(h.x, map[string]func(a, b api.Fix) api.Fix{"+": fix.Add, "-": fix.Sub, "*": fix.Mul, "/": fix.Div}[op](a.at(i), b.at(i)))
		} else {
			h.x = append(h.x, integer(op, int64(a.at(i)), int64(b.at(i))))
		}
	}
	return h
}

// integer does an operator between two ints; all but their last 32 bits fall away.
func integer(op string, a, b int64) api.Fix {
	switch op {
	case "+":
		return api.Fix(int32(a + b))
	case "-":
		return api.Fix(int32(a - b))
	case "*":
		return api.Fix(int32(a * b))
	}
	return api.Fix(int32(towardsNought(a, b)))
}

func (m *machine) assign(n api.Node) holding {
	h := m.expr(n.Kids[1])
	slots := m.slots(n.Kids[0])
	if op := strings.TrimSuffix(n.Text, "="); op != "" {
		by := holding{h.base, nil}
		for _, slot := range slots {
			by.x = append(by.x, *slot)
		}
		h = between(op, by, h)
	}
	for i, slot := range slots {
		*slot = h.x[i]
	}
	return h
}

// calls does a call: of a type's word, of a function of the shader, of a built-in one.
func (m *machine) calls(n api.Node) holding {
	var args []holding
	for _, kid := range n.Kids {
		args = append(args, m.expr(kid))
	}
	if parse.Type(n.Text) {
		return made(n.Text, args)
	}
	for i, f := range m.nodes {
		if f.Kind == api.NodeFunc && f.Text == n.Text {
			return m.call(i, args)
		}
	}
	if n.Text == "texture2D" {
		v := api.Vec{0, 0, 0, one}
		if at := int(args[0].x[0]); at >= 0 && at < len(m.images) {
			if w, err := sample.At(m.images[at], args[1].x[0], args[1].x[1], 0); err == api.OK {
				v = w
			}
		}
		return holding{"float", v[:]}
	}
	return builtin(n.Text, args)
}

// made answers what a type's word makes.
func made(kind string, args []holding) holding {
	h := holding{baseOf(kind), nil}
	for _, arg := range args {
		for _, x := range arg.x {
			h.x = append(h.x, converted(arg.base, h.base, x))
		}
	}
	for len(h.x) < sizeOf(kind) {
		h.x = append(h.x, h.x[0])
	}
	h.x = h.x[:sizeOf(kind)]
	return h
}

func converted(from, to string, x api.Fix) api.Fix {
	switch from + " " + to {
	case "float int":
		return api.Fix(towardsNought(int64(x), 65536))
	case "int float":
		return fix.Raw(int64(x) * 65536)
	case "bool float":
		return x * one
	case "float bool", "int bool":
		return yes(x != 0).x[0]
	}
	return x
}

// builtin does a built-in function.
func builtin(name string, args []holding) holding {
	n := 0
	for _, arg := range args {
		n = max(n, len(arg.x))
	}
	by := func(do func(i int) api.Fix) holding {
		h := holding{"float", nil}
		for i := range n {
			h.x = append(h.x, do(i))
		}
		return h
	}
	a, b, c := args[0], args[min(1, len(args)-1)], args[len(args)-1]
	switch name {
	case "mix":
		return by(func(i int) api.Fix { return fix.Add(a.at(i), fix.Mul(fix.Sub(b.at(i), a.at(i)), c.at(i))) })
	case "clamp":
		return by(func(i int) api.Fix { return fix.Min(fix.Max(a.at(i), b.at(i)), c.at(i)) })
	case "cross":
		return by(func(i int) api.Fix {
			k, l := (i+1)%3, (i+2)%3
			return fix.Sub(fix.Mul(a.x[k], b.x[l]), fix.Mul(a.x[l], b.x[k]))
		})
	case "dot":
		sum := api.Fix(0)
		for i := range n {
			sum = fix.Add(sum, fix.Mul(a.x[i], b.x[i]))
		}
		return holding{"float", []api.Fix{sum}}
	case "length":
		return holding{"float", []api.Fix{maths.Length(a.vector(), n)}}
	case "normalize":
		length := maths.Length(a.vector(), n)
		return by(func(i int) api.Fix { return fix.Div(a.x[i], length) })
	}
	names := strings.Fields("? abs sign floor fract sqrt inversesqrt exp2 log2 sin cos ? min max mod pow step")
	for fn, word := range names {
		if word == name && single(fn) != nil {
			return by(func(i int) api.Fix { return single(fn)(a.at(i)) })
		}
		if word == name {
			return by(func(i int) api.Fix { return double(fn)(a.at(i), b.at(i)) })
		}
	}
	panic(name)
}

// costing answers the cost of a node, of whatever size.
func costing(nodes []api.Node, i int) *big.Int {
	n := nodes[i]
	sum := big.NewInt(1)
	if n.Kind == api.NodeFor {
		rounds := big.NewInt(max(int64(nodes[n.Kids[1]].Num)-int64(nodes[n.Kids[0]].Num), 0) >> 16)
		round := costing(nodes, n.Kids[2])
		return sum.Add(sum, rounds.Mul(rounds, round.Add(round, big.NewInt(1))))
	}
	for _, kid := range n.Kids {
		sum.Add(sum, costing(nodes, kid))
	}
	for k, f := range nodes {
		if n.Kind == api.NodeCall && f.Kind == api.NodeFunc && f.Text == n.Text {
			sum.Add(sum, costing(nodes, k))
		}
	}
	return sum
}

// costOf answers the cost of a shader.
func costOf(x api.Tree) int {
	sum := new(big.Int)
	for _, kid := range x.Nodes[0].Kids {
		if n := x.Nodes[kid]; n.Kind == api.NodeDecl || n.Text == "main" {
			sum.Add(sum, costing(x.Nodes, kid))
		}
	}
	if sum.Cmp(big.NewInt(api.MaxSteps)) > 0 {
		return api.MaxSteps + 1
	}
	return int(sum.Int64())
}

// P15.2, P15.3: chance shaders in chance surroundings, held against the model.
func TestChanceShaders(t *testing.T) {
	told := map[string]int{}
	for seed := range 5000 {
		w := &writer{chance: chance(seed), stage: 1 + seed%2}
		text := w.shader()
		l, spot := lex.Lex(text)
		if _, wrong := parse.Parse(l); spot.Err != api.OK || wrong.Err == api.ErrLong {
			told["too long"]++
			continue
		}
		c := shader(t, w.stage, text)
		cost := costOf(c.Tree)
		if got := sense.Cost(c); got != cost {
			t.Fatalf("%s\ncosts %d; want %d", text, got, cost)
		}
		for range 3 {
			e := w.env(c)
			if cost > api.MaxSteps {
				told["too many steps"]++
				refused(t, c, e, api.ErrLong)
				continue
			}
			want := modelled(c.Tree, w.stage, e)
			if x, err := sense.Run(c, e); err != api.OK || !alike(x, want) {
				t.Fatalf("stage %d\n%s\n%v\ncomes %v, %d; want %v", w.stage, text, e, x, err, want)
			}
			switch {
			case want.Discard:
				told["discarded"]++
			case want.Color != api.Vec{} || want.Position != api.Vec{}:
				told["painted"]++
			}
		}
	}
	for what, least := range map[string]int{"discarded": 300, "painted": 8000, "too many steps": 9} {
		if told[what] < least {
			t.Errorf("%s: %d times", what, told[what])
		}
	}
	if told["too long"] > 500 {
		t.Error("too long:", told["too long"])
	}
}
