package parse

import (
	"paintbox/api"
	"paintbox/lex"
)

// Type tells whether this is a type's word.
func Type(word string) bool {
	switch word {
	case "void", "float", "vec2", "vec3", "vec4", "int", "ivec2", "ivec3", "ivec4", "bool", "bvec2", "bvec3", "bvec4", "sampler2D":
		return true
	}
	return false
}

// Reserved tells whether a word can't be a name.
func Reserved(word string) bool {
	switch word {
	case "attribute", "uniform", "varying", "const", "if", "else", "for", "return", "discard", "true", "false", "while", "do", "break", "continue",
		"in", "out", "inout", "struct", "precision", "lowp", "mediump", "highp":
		return true
	}
	return Type(word)
}

// isName tells whether a token of this text is a name.
func isName(text string) bool {
	return isToken(api.Token{Kind: api.TokWord, Text: text}) && !Reserved(text)
}

// isToken tells whether lex tells such a token.
func isToken(token api.Token) bool {
	return lex.Check([]api.Token{token}) == api.OK
}

// assigning answers the operators behind a place.
func assigning() []string {
	return []string{"=", "+=", "-=", "*=", "/="}
}

// turning answers the operators that stand ahead of what they are of.
func turning() []string {
	return []string{"-", "!"}
}

// The rules of operators in a row, that which binds least first.
const (
	levelOr = iota
	levelAnd
	levelSame
	levelLess
	levelSum
	levelProduct
)

// rows answers the operators of the rules of operators in a row.
func rows() [][]string {
	return [][]string{
		levelOr:      {"||"},
		levelAnd:     {"&&"},
		levelSame:    {"==", "!="},
		levelLess:    {"<", ">", "<=", ">="},
		levelSum:     {"+", "-"},
		levelProduct: {"*", "/"},
	}
}
