package parse

import (
	"slices"

	"paintbox/api"
	"paintbox/fix"
)

// fits tells whether nodes that stand in a tree's order say what they may, and have the kids that they may.
func fits(nodes []api.Node) bool {
	for _, n := range nodes {
		if n.At < 0 || !typeFits(n) || !textFits(n) || !numFits(n) || !kidsFit(n, nodes) {
			return false
		}
	}
	return nodes[0].Kind == api.NodeShader
}

// typeFits tells whether a node's Type may be.
func typeFits(n api.Node) bool {
	switch n.Kind {
	case api.NodeDecl, api.NodeFunc, api.NodeParam:
		return Type(n.Type)
	}
	return n.Type == ""
}

// textFits tells whether a node's Text may be.
func textFits(n api.Node) bool {
	switch n.Kind {
	case api.NodeDecl:
		return slices.Contains([]string{"", "attribute", "uniform", "varying", "const"}, n.Text)
	case api.NodeVar, api.NodeFunc, api.NodeParam, api.NodeFor, api.NodeField, api.NodeName:
		return isName(n.Text)
	case api.NodeCall:
		return isName(n.Text) || Type(n.Text)
	case api.NodeAssign:
		return slices.Contains(assigning(), n.Text)
	case api.NodeBinary:
		return slices.Contains(slices.Concat(rows()...), n.Text)
	case api.NodeUnary:
		return slices.Contains(turning(), n.Text)
	case api.NodeBool:
		return n.Text == "true" || n.Text == "false"
	}
	return n.Text == ""
}

// numFits tells whether a node's Num may be: an int's is a token's, or less than 0 by as much as one, as a bound's may be; a float's is a token's.
func numFits(n api.Node) bool {
	switch n.Kind {
	case api.NodeInt:
		size := fix.Abs(n.Num)
		return isToken(api.Token{Kind: api.TokInt, Text: wholeText(size), Num: size})
	case api.NodeFloat:
		return isToken(api.Token{Kind: api.TokFloat, Text: floatText(n.Num), Num: n.Num})
	}
	return n.Num == 0
}
