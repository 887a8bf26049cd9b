package parse

import (
	"slices"

	"paintbox/api"
)

// part is a node and its kids, as long as it is not known which numbers they get.
type part struct {
	api.Node
	kids []*part
}

// parser is tokens, and how many of them have been taken. Its rules are the grammar's; none takes a token that can't stand where it stands, so that what is wrong is always the next one.
type parser struct {
	tokens []api.Token
	next   int
	levels []level
}

// read answers the shader that these tokens are; or which of them can't stand there first.
func read(l []api.Token) (root *part, wrong api.Spot) {
	p := &parser{tokens: l}
	p.levels = p.table()
	defer func() {
		if recover() != nil {
			root, wrong = nil, api.Spot{Err: api.ErrParse, At: p.here()}
		}
	}()
	return p.shader(), api.Spot{}
}

// refuse leaves all rules: the next token can't stand there.
func (p *parser) refuse() {
	panic(api.ErrParse)
}

// here answers where the next token stands; behind all of them: where the last one ends. (No tokens are a shader, so of these it is not asked.)
func (p *parser) here() int {
	if p.next < len(p.tokens) {
		return p.tokens[p.next].At
	}
	last := p.tokens[len(p.tokens)-1]
	return last.At + len(last.Text)
}

// ahead answers the token that comes when n more are taken; behind all of them it is empty, as no token of a text is.
func (p *parser) ahead(n int) api.Token {
	if p.next+n < len(p.tokens) {
		return p.tokens[p.next+n]
	}
	return api.Token{}
}

// take takes the next token, if it is as it must be.
func (p *parser) take(may bool) api.Token {
	if !may {
		p.refuse()
	}
	token := p.ahead(0)
	p.next++
	return token
}

// isOne tells whether the next token is one of these.
func (p *parser) isOne(texts ...string) bool {
	return slices.Contains(texts, p.ahead(0).Text)
}

// skip takes the next token, if it is this one, and tells whether it was.
func (p *parser) skip(text string) bool {
	if !p.isOne(text) {
		return false
	}
	p.next++
	return true
}

// need takes these tokens, one by one.
func (p *parser) need(texts ...string) {
	for _, text := range texts {
		p.take(p.isOne(text))
	}
}

// typeWord takes a TYPE.
func (p *parser) typeWord() string {
	return p.take(Type(p.ahead(0).Text)).Text
}

// name takes a NAME.
func (p *parser) name() string {
	return p.take(p.isName()).Text
}

// isName tells whether the next token is a NAME.
func (p *parser) isName() bool {
	token := p.ahead(0)
	return token.Kind == api.TokWord && !Reserved(token.Text)
}

// begin answers a part of this kind that stands at the next token.
func (p *parser) begin(kind int, kids ...*part) *part {
	return &part{Node: api.Node{Kind: kind, At: p.ahead(0).At}, kids: kids}
}

// several goes by a rule once, and again behind each comma.
func (p *parser) several(rule func() *part) []*part {
	l := []*part{rule()}
	for p.skip(",") {
		l = append(l, rule())
	}
	return l
}

// enclosed goes by a rule any number of times, with commas between, in parentheses.
func (p *parser) enclosed(rule func() *part) []*part {
	p.need("(")
	if p.skip(")") {
		return nil
	}
	l := p.several(rule)
	p.need(")")
	return l
}
