package sense

import (
	"paintbox/api"
	"paintbox/fix"
)

// meter counts what nodes cost. It keeps the costs of the functions so far by their nodes, for a function may be called by many that are called by many.
type meter struct {
	api.Checked
	functions map[int]int
}

// costOf answers the cost of a shader. A function's is known ahead of all its calls, for these stand behind it.
func costOf(c api.Checked) int {
	m := meter{c, map[int]int{}}
	sum := 0
	for _, number := range c.Tree.Nodes[0].Kids {
		cost := m.node(number)
		isFunction := c.Tree.Nodes[number].Kind == api.NodeFunc
		if isFunction {
			m.functions[number] = cost
		}
		if !isFunction || number == c.Main {
			sum = bounded(sum + cost)
		}
	}
	return sum
}

// node answers the cost of a node.
func (m meter) node(number int) int {
	n := m.Tree.Nodes[number]
	sum := 1
	switch n.Kind {
	case api.NodeFor:
		first, second := bounds(m.Tree, n)
		return bounded(sum + max(second-first, 0)*(1+m.node(n.Kids[2])))
	case api.NodeCall:
		sum += m.functions[m.Uses[number]]
	}
	for _, kid := range n.Kids {
		sum += m.node(kid)
	}
	return bounded(sum)
}

// bounded answers a cost, or MaxSteps and one in the place of what is more. No cost is below 0, so that nothing that is added later brings it back.
func bounded(cost int) int {
	return min(cost, api.MaxSteps+1)
}

// bounds answers the bounds of a for.
func bounds(t api.Tree, n api.Node) (int, int) {
	return fix.Int(t.Nodes[n.Kids[0]].Num), fix.Int(t.Nodes[n.Kids[1]].Num)
}
