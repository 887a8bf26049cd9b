package parse

import "paintbox/api"

// kidsFit tells whether a node has the kids that it may, of nodes that stand in a tree's order.
func kidsFit(n api.Node, nodes []api.Node) bool {
	switch n.Kind {
	case api.NodeShader:
		return every(n.Kids, nodes, isOuter)
	case api.NodeDecl:
		return len(n.Kids) > 0 && every(n.Kids, nodes, isVar)
	case api.NodeVar, api.NodeReturn:
		return len(n.Kids) == 0 || just(n.Kids, nodes, isExpr)
	case api.NodeFunc:
		last := max(0, len(n.Kids)-1)
		return every(n.Kids[:last], nodes, isParam) && just(n.Kids[last:], nodes, isBlock)
	case api.NodeBlock:
		return every(n.Kids, nodes, isStatement)
	case api.NodeIf:
		return just(n.Kids, nodes, isExpr, isStatement) || just(n.Kids, nodes, isExpr, isStatement, isStatement) && !takesElse(n.Kids[1], nodes)
	case api.NodeFor:
		return just(n.Kids, nodes, isBound, isBound, isStatement)
	case api.NodeExpr, api.NodeUnary, api.NodeField:
		return just(n.Kids, nodes, isExpr)
	case api.NodeAssign:
		return just(n.Kids, nodes, isPlace, isExpr)
	case api.NodeCond:
		return just(n.Kids, nodes, isExpr, isExpr, isExpr)
	case api.NodeBinary:
		return just(n.Kids, nodes, isExpr, isExpr)
	case api.NodeCall:
		return every(n.Kids, nodes, isExpr)
	case api.NodeParam, api.NodeDiscard, api.NodeEmpty, api.NodeName, api.NodeInt, api.NodeFloat, api.NodeBool:
		return len(n.Kids) == 0
	}
	return false
}

// every tells whether all kids are so.
func every(kids []int, nodes []api.Node, is func(api.Node) bool) bool {
	for _, kid := range kids {
		if !is(nodes[kid]) {
			return false
		}
	}
	return true
}

// just tells whether there are as many kids as these, each of them so.
func just(kids []int, nodes []api.Node, are ...func(api.Node) bool) bool {
	if len(kids) != len(are) {
		return false
	}
	for i, is := range are {
		if !is(nodes[kids[i]]) {
			return false
		}
	}
	return true
}

// takesElse tells whether an else behind this statement would belong to an if at its end, so that none further out can have it.
func takesElse(number int, nodes []api.Node) bool {
	n := nodes[number]
	switch {
	case n.Kind == api.NodeIf && len(n.Kids) == 2:
		return true
	case n.Kind == api.NodeIf || n.Kind == api.NodeFor:
		return len(n.Kids) > 0 && takesElse(n.Kids[len(n.Kids)-1], nodes)
	}
	return false
}

// isOuter tells whether a node may stand in no function.
func isOuter(n api.Node) bool {
	return n.Kind == api.NodeDecl || n.Kind == api.NodeFunc
}

// isVar tells whether a node is what a NodeDecl declares.
func isVar(n api.Node) bool {
	return n.Kind == api.NodeVar
}

// isParam tells whether a node is a parameter.
func isParam(n api.Node) bool {
	return n.Kind == api.NodeParam
}

// isBlock tells whether a node is a block.
func isBlock(n api.Node) bool {
	return n.Kind == api.NodeBlock
}

// isStatement tells whether a node is a statement; of the words ahead of a TYPE a local has const alone.
func isStatement(n api.Node) bool {
	switch n.Kind {
	case api.NodeDecl:
		return n.Text == "" || n.Text == "const"
	case api.NodeBlock, api.NodeIf, api.NodeFor, api.NodeReturn, api.NodeDiscard, api.NodeExpr, api.NodeEmpty:
		return true
	}
	return false
}

// isBound tells whether a node is a bound of a for.
func isBound(n api.Node) bool {
	return n.Kind == api.NodeInt
}

// isExpr tells whether a node is an expression; an int below 0 is a bound alone.
func isExpr(n api.Node) bool {
	switch n.Kind {
	case api.NodeInt:
		return n.Num >= 0
	case api.NodeAssign, api.NodeCond, api.NodeBinary, api.NodeUnary, api.NodeCall, api.NodeField, api.NodeName, api.NodeFloat, api.NodeBool:
		return true
	}
	return false
}
