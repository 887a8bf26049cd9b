package parse_test

import (
	"math"
	"slices"
	"testing"

	"paintbox/api"
	"paintbox/fix"
	"paintbox/lex"
	"paintbox/parse"
)

// renderer tells tokens of a tree, each expression in parentheses; of a tree that may not be, whatever comes of it.
type renderer struct {
	nodes  []api.Node
	tokens []api.Token
	steps  int
}

func (r *renderer) put(texts ...string) {
	for _, text := range texts {
		l, _ := lex.Lex(text)
		r.tokens = append(r.tokens, l...)
	}
}

// kids tells kids from one to ahead of another, as many as there are, with a text ahead of each but the first.
func (r *renderer) kids(n api.Node, from, to int, between string) {
	for i := from; i < min(to, len(n.Kids)); i++ {
		if i > from {
			r.put(between)
		}
		r.node(n.Kids[i])
	}
}

// node tells a node's tokens. It ends, whatever kids say.
func (r *renderer) node(number int) {
	if r.steps++; number < 0 || number >= len(r.nodes) || r.steps > len(r.nodes) {
		return
	}
	n := r.nodes[number]
	if n.Kind >= api.NodeAssign && n.Kind <= api.NodeBool && (n.Kind != api.NodeInt || n.Num >= 0) && !r.isBound(number) {
		r.put("(")
		defer r.put(")")
	}
	end := len(n.Kids)
	switch n.Kind {
	case api.NodeShader:
		r.kids(n, 0, end, "")
	case api.NodeDecl:
		r.put(n.Text, n.Type)
		r.kids(n, 0, end, ",")
		r.put(";")
	case api.NodeVar:
		r.put(n.Text)
		if end > 0 {
			r.put("=")
		}
		r.kids(n, 0, end, "")
	case api.NodeFunc:
		r.put(n.Type, n.Text, "(")
		r.kids(n, 0, end-1, ",")
		r.put(")")
		r.kids(n, max(0, end-1), end, "")
	case api.NodeParam:
		r.put(n.Type, n.Text)
	case api.NodeBlock:
		r.put("{")
		r.kids(n, 0, end, "")
		r.put("}")
	case api.NodeIf:
		r.put("if", "(")
		r.kids(n, 0, 1, "")
		r.put(")")
		r.kids(n, 1, end, "else")
	case api.NodeFor:
		r.put("for", "(", "int", n.Text, "=")
		r.kids(n, 0, 1, "")
		r.put(";", n.Text, "<")
		r.kids(n, 1, 2, "")
		r.put(";", n.Text, "++", ")")
		r.kids(n, 2, end, "")
	case api.NodeReturn:
		r.put("return")
		r.kids(n, 0, end, "")
		r.put(";")
	case api.NodeDiscard:
		r.put("discard", ";")
	case api.NodeExpr, api.NodeEmpty:
		r.kids(n, 0, end, "")
		r.put(";")
	case api.NodeCond:
		r.kids(n, 0, 2, "?")
		r.put(":")
		r.kids(n, 2, end, "")
	default:
		r.expr(n)
	}
}

// expr tells the tokens within an expression's parentheses.
func (r *renderer) expr(n api.Node) {
	end := len(n.Kids)
	switch n.Kind {
	case api.NodeAssign, api.NodeBinary:
		r.kids(n, 0, end, n.Text)
	case api.NodeUnary:
		r.put(n.Text)
		r.kids(n, 0, end, "")
	case api.NodeCall:
		r.put(n.Text, "(")
		r.kids(n, 0, end, ",")
		r.put(")")
	case api.NodeField:
		r.kids(n, 0, end, "")
		r.put(".", n.Text)
	case api.NodeName, api.NodeBool:
		r.put(n.Text)
	case api.NodeInt, api.NodeFloat:
		text := fix.Text(n.Num)
		if n.Kind == api.NodeFloat && n.Num == fix.Floor(n.Num) {
			text += ".0"
		}
		r.put(text)
	}
}

// isBound tells whether a node is one of the first two kids of a for, where no parentheses stand.
func (r *renderer) isBound(number int) bool {
	return slices.ContainsFunc(r.nodes, func(n api.Node) bool {
		return n.Kind == api.NodeFor && slices.Contains(n.Kids[:min(2, len(n.Kids))], number)
	})
}

// means tells whether a tree may be, out of the tokens that it would have: false beside known, if they are too many to ask.
func means(x api.Tree) (may, known bool) {
	if slices.ContainsFunc(x.Nodes, func(n api.Node) bool { return n.At < 0 }) {
		return false, true
	}
	r := renderer{nodes: x.Nodes}
	r.node(0)
	if len(r.tokens) > api.MaxTokens {
		return false, false
	}
	y, spot := parse.Parse(r.tokens)
	return spot == (api.Spot{}) && parse.Same(x, y), true
}

// spoil changes one thing of a tree, by chance; often it may still be.
func (c *chance) spoil(x *api.Tree) {
	i := c.below(len(x.Nodes))
	n := &x.Nodes[i]
	texts := append(reservedWords(), "", "", "a", "b", "x", "main", "+", "-", "*", "/", "=", "+=", "!", "<", "==", "||", "a b", " a", "1", ";", "++", "?", ".")
	switch c.below(12) {
	case 0:
		n.Kind = c.below(24)
	case 1:
		n.Kind += c.below(3) - 1
	case 2:
		n.Text = c.of(texts...)
	case 3:
		n.Type = c.of(append(typeWords(), "", "", "a")...)
	case 4:
		n.Num = []api.Fix{0, 1, -1, api.One, -api.One, 98304, api.Most, api.Least, fix.Of(32767)}[c.below(9)]
	case 5:
		n.At = []int{0, 1, 1000, -1, math.MinInt, math.MaxInt}[c.below(6)]
	case 6:
		n.Kids = append(n.Kids, []int{i + 1, len(x.Nodes), 0, -1}[c.below(4)])
	case 7:
		if len(n.Kids) > 0 {
			n.Kids = n.Kids[:len(n.Kids)-1]
		}
	case 8:
		x.Nodes = append(x.Nodes, x.Nodes[c.below(len(x.Nodes))])
	case 9:
		x.Nodes = x.Nodes[:c.below(len(x.Nodes)+1)]
	case 10:
		j := c.below(len(x.Nodes))
		x.Nodes[i], x.Nodes[j] = x.Nodes[j], x.Nodes[i]
	case 11:
		j := c.below(len(x.Nodes))
		a, b := &x.Nodes[i], &x.Nodes[j]
		a.Kind, a.Type, a.Text, a.Num, b.Kind, b.Type, b.Text, b.Num = b.Kind, b.Type, b.Text, b.Num, a.Kind, a.Type, a.Text, a.Num
	}
}

// regrow changes a twig somewhere: another kid, one kid less, kids that change places, a node of another kind with the same kids.
func (c *chance) regrow(x *twig) {
	for len(x.kids) > 0 && c.below(5) > 0 {
		x = &x.kids[c.below(len(x.kids))]
	}
	x.kids = slices.Clone(x.kids)
	n := len(x.kids)
	switch c.below(5) {
	case 0:
		x.kids = slices.Insert(x.kids, c.below(n+1), sample(1+c.below(api.NodeBool)))
	case 1:
		if n > 0 {
			i := c.below(n)
			x.kids = slices.Delete(x.kids, i, i+1)
		}
	case 2:
		if n > 0 {
			i, j := c.below(n), c.below(n)
			x.kids[i], x.kids[j] = x.kids[j], x.kids[i]
		}
	case 3:
		x.Node = sample(1 + c.below(api.NodeBool)).Node
	case 4:
		*x = sample(1 + c.below(api.NodeBool))
	}
}

// P12.2: chance trees in which something is changed: they may be, if there are tokens whose tree they are.
func TestSpoiltTrees(t *testing.T) {
	count := map[bool]int{}
	hold := func(x api.Tree) {
		t.Helper()
		want, known := means(x)
		if len(x.Nodes) == 0 || !known {
			return
		}
		may(t, x, want)
		count[want]++
	}
	for seed := range 2500 {
		c := chance(seed)
		w, want := write(seed)
		if len(w.tokens) > 120 {
			continue
		}
		hold(want.lay())
		for range 8 {
			x := want.lay()
			c.spoil(&x)
			if len(x.Nodes) > 0 && c.below(3) == 0 {
				c.spoil(&x)
			}
			hold(x)
			_, y := write(seed)
			c.regrow(&y)
			hold(y.lay())
		}
	}
	if count[true] < 1000 || count[false] < 1000 {
		t.Error(count)
	}
}
