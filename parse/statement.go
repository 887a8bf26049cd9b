package parse

import (
	"paintbox/api"
	"paintbox/fix"
)

// shader = { decl | func }. Without a word ahead of its TYPE each of both may begin; the sign behind the NAME tells which.
func (p *parser) shader() *part {
	x := &part{Node: api.Node{Kind: api.NodeShader}}
	for p.next < len(p.tokens) {
		if Type(p.ahead(0).Text) && p.ahead(2).Text == "(" {
			x.kids = append(x.kids, p.function())
		} else {
			x.kids = append(x.kids, p.decl("attribute", "uniform", "varying", "const"))
		}
	}
	return x
}

// decl = [ one of these words ] TYPE var { , var } ;
func (p *parser) decl(words ...string) *part {
	x := p.begin(api.NodeDecl)
	if p.isOne(words...) {
		x.Text = p.take(true).Text
	}
	x.Type = p.typeWord()
	x.kids = p.several(p.variable)
	p.need(";")
	return x
}

// variable = NAME [ = expr ]
func (p *parser) variable() *part {
	x := p.begin(api.NodeVar)
	x.Text = p.name()
	if p.skip("=") {
		x.kids = []*part{p.expr()}
	}
	return x
}

// function = TYPE NAME ( [ param { , param } ] ) block
func (p *parser) function() *part {
	x := p.begin(api.NodeFunc)
	x.Type = p.typeWord()
	x.Text = p.name()
	x.kids = append(p.enclosed(p.param), p.block())
	return x
}

// param = TYPE NAME
func (p *parser) param() *part {
	word := p.typeWord()
	x := p.begin(api.NodeParam)
	x.Type, x.Text = word, p.name()
	return x
}

// block = { { statement } }
func (p *parser) block() *part {
	x := p.begin(api.NodeBlock)
	p.need("{")
	for !p.skip("}") {
		x.kids = append(x.kids, p.statement())
	}
	return x
}

// statement = block | local | if | for | return [ expr ] ; | discard ; | expr ; | ;
func (p *parser) statement() *part {
	word := p.ahead(0).Text
	switch word {
	case "{":
		return p.block()
	case "if":
		return p.branch()
	case "for":
		return p.loop()
	case "return":
		return p.leave()
	case "discard":
		x := p.begin(api.NodeDiscard)
		p.need("discard", ";")
		return x
	case ";":
		x := p.begin(api.NodeEmpty)
		p.need(";")
		return x
	}
	if word == "const" || Type(word) && p.ahead(1).Text != "(" {
		return p.decl("const")
	}
	x := p.begin(api.NodeExpr)
	x.kids = []*part{p.expr()}
	p.need(";")
	return x
}

// branch = if ( expr ) statement [ else statement ]. The innermost if is asked first, so that an else belongs to the last one that it can.
func (p *parser) branch() *part {
	x := p.begin(api.NodeIf)
	p.need("if", "(")
	x.kids = append(x.kids, p.expr())
	p.need(")")
	x.kids = append(x.kids, p.statement())
	if p.skip("else") {
		x.kids = append(x.kids, p.statement())
	}
	return x
}

// loop = for ( int NAME = bound ; NAME < bound ; NAME ++ ) statement
func (p *parser) loop() *part {
	x := p.begin(api.NodeFor)
	p.need("for", "(", "int")
	x.Text = p.name()
	p.need("=")
	x.kids = append(x.kids, p.bound())
	p.need(";", x.Text, "<")
	x.kids = append(x.kids, p.bound())
	p.need(";", x.Text, "++", ")")
	x.kids = append(x.kids, p.statement())
	return x
}

// bound = [ - ] INT
func (p *parser) bound() *part {
	x := p.begin(api.NodeInt)
	below := p.skip("-")
	x.Num = p.take(p.ahead(0).Kind == api.TokInt).Num
	if below {
		x.Num = fix.Neg(x.Num)
	}
	return x
}

// leave = return [ expr ] ;
func (p *parser) leave() *part {
	x := p.begin(api.NodeReturn)
	p.need("return")
	if !p.isOne(";") {
		x.kids = []*part{p.expr()}
	}
	p.need(";")
	return x
}
