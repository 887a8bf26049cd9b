package parse

import (
	"strconv"
	"strings"

	"paintbox/api"
	"paintbox/fix"
)

// printer is a tree that may be, and the texts of the tokens that are told of it by now.
type printer struct {
	nodes  []api.Node
	tokens []string
}

// tell adds tokens; an empty text is none.
func (p *printer) tell(texts ...string) {
	for _, text := range texts {
		if text != "" {
			p.tokens = append(p.tokens, text)
		}
	}
}

// put adds the tokens of a node.
func (p *printer) put(number int) {
	n := p.nodes[number]
	switch n.Kind {
	case api.NodeShader:
		p.list(n.Kids, "")
	case api.NodeDecl:
		p.tell(n.Text, n.Type)
		p.list(n.Kids, ",")
		p.tell(";")
	case api.NodeVar:
		p.tell(n.Text)
		p.optional("=", n.Kids)
	case api.NodeFunc:
		last := len(n.Kids) - 1
		p.tell(n.Type, n.Text, "(")
		p.list(n.Kids[:last], ",")
		p.tell(")")
		p.put(n.Kids[last])
	case api.NodeParam:
		p.tell(n.Type, n.Text)
	default:
		p.statement(n)
	}
}

// list adds the tokens of these nodes, with a text between each two.
func (p *printer) list(numbers []int, between string) {
	for i, number := range numbers {
		if i > 0 {
			p.tell(between)
		}
		p.put(number)
	}
}

// optional adds a text and the tokens of what stands behind it, if there is something.
func (p *printer) optional(text string, numbers []int) {
	for _, number := range numbers {
		p.tell(text)
		p.put(number)
	}
}

// statement adds the tokens of a statement that is no local.
func (p *printer) statement(n api.Node) {
	switch n.Kind {
	case api.NodeBlock:
		p.tell("{")
		p.list(n.Kids, "")
		p.tell("}")
	case api.NodeIf:
		p.tell("if", "(")
		p.put(n.Kids[0])
		p.tell(")")
		p.put(n.Kids[1])
		p.optional("else", n.Kids[2:])
	case api.NodeFor:
		p.tell("for", "(", "int", n.Text, "=")
		p.bound(n.Kids[0])
		p.tell(";", n.Text, "<")
		p.bound(n.Kids[1])
		p.tell(";", n.Text, "++", ")")
		p.put(n.Kids[2])
	case api.NodeReturn:
		p.tell("return")
		p.list(n.Kids, "")
		p.tell(";")
	case api.NodeDiscard:
		p.tell("discard", ";")
	case api.NodeExpr:
		p.put(n.Kids[0])
		p.tell(";")
	case api.NodeEmpty:
		p.tell(";")
	default:
		p.expr(n)
	}
}

// bound adds the tokens of a bound: a minus is one of its own.
func (p *printer) bound(number int) {
	num := p.nodes[number].Num
	if num < 0 {
		p.tell("-")
	}
	p.tell(wholeText(fix.Abs(num)))
}

// expr adds the tokens of an expression.
func (p *printer) expr(n api.Node) {
	switch n.Kind {
	case api.NodeAssign, api.NodeBinary:
		p.side(n.Kids[0])
		p.tell(n.Text)
		p.side(n.Kids[1])
	case api.NodeCond:
		p.side(n.Kids[0])
		p.tell("?")
		p.side(n.Kids[1])
		p.tell(":")
		p.side(n.Kids[2])
	case api.NodeUnary:
		p.tell(n.Text)
		p.side(n.Kids[0])
	case api.NodeCall:
		p.tell(n.Text, "(")
		p.list(n.Kids, ",")
		p.tell(")")
	case api.NodeField:
		p.side(n.Kids[0])
		p.tell(".", n.Text)
	case api.NodeName, api.NodeBool:
		p.tell(n.Text)
	case api.NodeInt:
		p.tell(wholeText(n.Num))
	case api.NodeFloat:
		p.tell(floatText(n.Num))
	}
}

// side adds the tokens of an expression beside an operator or a point: in parentheses, if it has an operator of its own, whether or not it needs them.
func (p *printer) side(number int) {
	switch p.nodes[number].Kind {
	case api.NodeAssign, api.NodeCond, api.NodeBinary, api.NodeUnary:
		p.tell("(")
		p.put(number)
		p.tell(")")
	default:
		p.put(number)
	}
}

// wholeText answers the text of an int.
func wholeText(x api.Fix) string {
	return strconv.Itoa(fix.Int(x))
}

// floatText answers the text of a float: without a point it would be an int's.
func floatText(x api.Fix) string {
	text := fix.Text(x)
	if strings.Contains(text, ".") {
		return text
	}
	return text + ".0"
}

// join answers the text of these tokens.
func join(tokens []string) string {
	var text strings.Builder
	for i, token := range tokens {
		if i > 0 {
			text.WriteString(parting(tokens[i-1]))
		}
		text.WriteString(token)
	}
	return text.String()
}

// parting answers what stands behind a token that is not the last one.
func parting(token string) string {
	switch token {
	case ";", "{", "}":
		return "\n"
	}
	return " "
}
