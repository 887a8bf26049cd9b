package parse

import "paintbox/api"

// level is a rule of operators in a row: the rule of its sides, and its operators.
type level struct {
	side func() *part
	ops  []string
}

// table answers the rules of operators in a row, each with the next one for its sides.
func (p *parser) table() []level {
	ops := rows()
	return []level{
		levelOr:      {p.and, ops[levelOr]},
		levelAnd:     {p.same, ops[levelAnd]},
		levelSame:    {p.less, ops[levelSame]},
		levelLess:    {p.sum, ops[levelLess]},
		levelSum:     {p.product, ops[levelSum]},
		levelProduct: {p.unary, ops[levelProduct]},
	}
}

// expr = cond | place op expr. Nothing that may follow an expr begins with such an op, so behind what is no place it is refused.
func (p *parser) expr() *part {
	x := p.cond()
	if isPlace(x.Node) && p.isOne(assigning()...) {
		return p.operate(api.NodeAssign, x, p.expr)
	}
	return x
}

// operate takes an operator, and what stands behind it by this rule.
func (p *parser) operate(kind int, side *part, rule func() *part) *part {
	x := p.begin(kind, side)
	x.Text = p.take(true).Text
	x.kids = append(x.kids, rule())
	return x
}

// cond = or [ ? expr : cond ]
func (p *parser) cond() *part {
	side := p.or()
	if !p.isOne("?") {
		return side
	}
	x := p.begin(api.NodeCond, side)
	p.need("?")
	x.kids = append(x.kids, p.expr())
	p.need(":")
	x.kids = append(x.kids, p.cond())
	return x
}

// The rules of operators in a row, each by its level.
func (p *parser) or() *part      { return p.row(levelOr) }
func (p *parser) and() *part     { return p.row(levelAnd) }
func (p *parser) same() *part    { return p.row(levelSame) }
func (p *parser) less() *part    { return p.row(levelLess) }
func (p *parser) sum() *part     { return p.row(levelSum) }
func (p *parser) product() *part { return p.row(levelProduct) }

// row goes by the rule of a level: the first of its operators binds first.
func (p *parser) row(number int) *part {
	rule := p.levels[number]
	x := rule.side()
	for p.isOne(rule.ops...) {
		x = p.operate(api.NodeBinary, x, rule.side)
	}
	return x
}

// unary = op unary | post
func (p *parser) unary() *part {
	if !p.isOne(turning()...) {
		return p.post()
	}
	x := p.begin(api.NodeUnary)
	x.Text = p.take(true).Text
	x.kids = []*part{p.unary()}
	return x
}

// post = first { . NAME }
func (p *parser) post() *part {
	x := p.first()
	for p.skip(".") {
		x = p.begin(api.NodeField, x)
		x.Text = p.name()
	}
	return x
}

// first = NAME | INT | FLOAT | true | false | call | ( expr )
func (p *parser) first() *part {
	token := p.ahead(0)
	switch {
	case token.Text == "(":
		p.need("(")
		x := p.expr()
		p.need(")")
		return x
	case token.Kind == api.TokInt:
		return p.number(api.NodeInt)
	case token.Kind == api.TokFloat:
		return p.number(api.NodeFloat)
	case token.Text == "true", token.Text == "false":
		x := p.begin(api.NodeBool)
		x.Text = p.take(true).Text
		return x
	case Type(token.Text), p.ahead(1).Text == "(":
		return p.call()
	}
	x := p.begin(api.NodeName)
	x.Text = p.name()
	return x
}

// number takes a number that may stand there.
func (p *parser) number(kind int) *part {
	x := p.begin(kind)
	x.Num = p.take(true).Num
	return x
}

// call = NAME ( [ expr { , expr } ] ) | TYPE ( [ expr { , expr } ] )
func (p *parser) call() *part {
	x := p.begin(api.NodeCall)
	x.Text = p.take(p.isName() || Type(p.ahead(0).Text)).Text
	x.kids = p.enclosed(p.expr)
	return x
}

// isPlace tells whether a node may stand ahead of an assignment's sign.
func isPlace(n api.Node) bool {
	return n.Kind == api.NodeName || n.Kind == api.NodeField
}
