package gen

import (
	"slices"

	"paintbox/api"
	"paintbox/kinds"
)

// expr lays an expression; its value goes to a register that no variable in sight stands in, so that its parts may wait there.
func (g *generator) expr(number, dst int) {
	n := g.Tree.Nodes[number]
	switch n.Kind {
	case api.NodeInt:
		g.constant(dst, api.Vec{g.wholeNumber(number)})
	case api.NodeFloat:
		g.constant(dst, api.Vec{n.Num})
	case api.NodeBool:
		g.constant(dst, truth(n.Text))
	case api.NodeName:
		g.read(g.Uses[number], dst)
	case api.NodeField:
		g.expr(n.Kids[0], dst)
		g.pick(dst, dst, g.places(n))
	case api.NodeUnary:
		g.apply(unary(n.Text), n.Kids, dst)
	case api.NodeBinary:
		g.binary(n, dst)
	case api.NodeCond:
		g.cond(n, dst)
	case api.NodeAssign:
		g.assign(n, dst)
	case api.NodeCall:
		g.call(number, dst)
	}
}

// truth answers the bool of a word.
func truth(word string) api.Vec {
	if word == "true" {
		return api.Vec{1}
	}
	return api.Vec{}
}

// read lays what a variable holds. It is a copy: what is behind it in the same expression may change the variable.
func (g *generator) read(use, dst int) {
	if register, held := g.held[use]; held {
		g.emit(api.Instr{Op: api.OpMove, Dst: dst, A: register})
		return
	}
	s := g.sources[use]
	g.emit(api.Instr{Op: api.OpLoad, Dst: dst, Fn: s.from, A: s.at})
	if use >= 0 {
		g.trim(g.Types[use], dst)
	}
}

// trim lays that vectors of the surroundings' lists, which come as they are, become values of a type.
func (g *generator) trim(kind api.Type, register int) {
	switch {
	case kind.Base == api.BaseBool:
		g.convert(register, kind.Size, api.BaseInt, api.BaseBool)
	case kind.Size < len(api.Vec{}):
		g.pick(register, register, upTo(kind.Size))
	}
}

// upTo answers the first n places.
func upTo(n int) []int {
	return []int{0, 1, 2, 3}[:n]
}

// unary answers the operation of an operator ahead of a value.
func unary(op string) int {
	if op == "!" {
		return api.FnNot
	}
	return api.FnNeg
}

// operator answers the operation of an operator between two values, or of one that assigns.
func operator(op string) int {
	switch op {
	case "+", "+=":
		return api.FnAdd
	case "-", "-=":
		return api.FnSub
	case "*", "*=":
		return api.FnMul
	case "/", "/=":
		return api.FnDiv
	case "<":
		return api.FnLess
	case ">":
		return api.FnMore
	case "<=":
		return api.FnAtMost
	case ">=":
		return api.FnAtLeast
	case "==":
		return api.FnSame
	}
	return api.FnOther
}

// values lays expressions in order, and answers the registers in which their values wait.
func (g *generator) values(numbers []int) []int {
	var l []int
	for _, number := range numbers {
		register := g.take()
		g.expr(number, register)
		l = append(l, register)
	}
	return l
}

// apply lays an operation of expressions.
func (g *generator) apply(fn int, numbers []int, dst int) {
	defer g.giveBack()()
	g.operate(fn, numbers, g.values(numbers), dst)
}

// operate lays an operation of the values of these nodes, which stand in these registers. A plain one's number comes to stand in as many places as the others have.
func (g *generator) operate(fn int, numbers, registers []int, dst int) {
	size := 0
	for _, number := range numbers {
		size = max(size, g.Types[number].Size)
	}
	i := api.Instr{Op: api.OpDo, Fn: fn, Base: g.Types[numbers[0]].Base, N: size, Dst: dst}
	arguments := []*int{&i.A, &i.B, &i.C}
	for k, register := range registers {
		if g.Types[numbers[k]].Size < size {
			g.spread(register, size)
		}
		*arguments[k] = register
	}
	g.emit(i)
}

// spread lays that a register's first number stands in the first n places.
func (g *generator) spread(register, n int) {
	g.pick(register, register, slices.Repeat([]int{0}, n))
}

// binary lays an operator between two; where the first one says it all, the second one is jumped over.
func (g *generator) binary(n api.Node, dst int) {
	first, second := n.Kids[0], func() { g.expr(n.Kids[1], dst) }
	switch n.Text {
	case "&&":
		g.expr(first, dst)
		g.when(dst, second)
	case "||":
		g.expr(first, dst)
		g.either(dst, func() {}, second)
	default:
		g.apply(operator(n.Text), n.Kids, dst)
	}
}

// cond lays one of two expressions.
func (g *generator) cond(n api.Node, dst int) {
	g.expr(n.Kids[0], dst)
	g.either(dst, func() { g.expr(n.Kids[1], dst) }, func() { g.expr(n.Kids[2], dst) })
}

// assign lays that a place holds a value. What it holds till then is asked behind the value, which may have changed it.
func (g *generator) assign(n api.Node, dst int) {
	defer g.giveBack()()
	g.expr(n.Kids[1], dst)
	variable, places := g.place(n.Kids[0])
	if n.Text != "=" {
		holds := g.take()
		g.pick(holds, variable, places)
		g.operate(operator(n.Text), n.Kids, []int{holds, dst}, dst)
	}
	g.put(variable, dst, places)
}

// place answers the register of the variable of which a place is, and which places of it.
func (g *generator) place(number int) (int, []int) {
	n := g.Tree.Nodes[number]
	if n.Kind == api.NodeName {
		return g.held[g.Uses[number]], upTo(g.Types[number].Size)
	}
	variable, within := g.place(n.Kids[0])
	var l []int
	for _, at := range g.places(n) {
		l = append(l, within[at])
	}
	return variable, l
}

// places answers the places that a field's name says of its kid.
func (g *generator) places(n api.Node) []int {
	_, l, _ := kinds.Field(g.Types[n.Kids[0]], n.Text)
	return l
}
