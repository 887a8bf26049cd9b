package parse

import "paintbox/api"

// order answers the tree of a part: each node is followed by its first kid and all within that, and so on. ErrLong at the first node that lies too deep.
func order(root *part) (api.Tree, api.Spot) {
	var nodes []api.Node
	var wrong api.Spot
	var put func(x *part, depth int) bool
	put = func(x *part, depth int) bool {
		if depth > api.MaxDepth {
			wrong = api.Spot{Err: api.ErrLong, At: x.At}
			return false
		}
		number := len(nodes)
		nodes = append(nodes, x.Node)
		for _, kid := range x.kids {
			nodes[number].Kids = append(nodes[number].Kids, len(nodes))
			if !put(kid, depth+1) {
				return false
			}
		}
		return true
	}
	if !put(root, 0) {
		return api.Tree{}, wrong
	}
	return api.Tree{Nodes: nodes}, api.Spot{}
}

// deepest answers how deep the deepest node lies; false, if the nodes do not stand in a tree's order: each but the first is a kid once, and the next one when its turn comes.
func deepest(nodes []api.Node) (deep int, ordered bool) {
	next := 0
	var walk func(depth int) bool
	walk = func(depth int) bool {
		if next == len(nodes) {
			return false
		}
		deep = max(deep, depth)
		kids := nodes[next].Kids
		next++
		for _, kid := range kids {
			if kid != next || !walk(depth+1) {
				return false
			}
		}
		return true
	}
	ordered = walk(0) && next == len(nodes)
	return deep, ordered
}
