package gen

import (
	"paintbox/api"
	"paintbox/sense"
)

// function lays in a function whose parameters have their values. Each return is a jump behind it.
func (g *generator) function(number, result int) {
	kids := g.Tree.Nodes[number].Kids
	g.ends = append(g.ends, end{result: result})
	g.statement(kids[len(kids)-1])
	last := len(g.ends) - 1
	g.patch(g.ends[last].jumps...)
	g.ends = g.ends[:last]
}

// statement lays a statement. What a declaration takes is given back by the scope in which it stands.
func (g *generator) statement(number int) {
	n := g.Tree.Nodes[number]
	switch n.Kind {
	case api.NodeDecl:
		g.declare(n)
	case api.NodeBlock:
		g.block(n)
	case api.NodeIf:
		g.choice(n)
	case api.NodeFor:
		g.loop(number)
	case api.NodeReturn:
		g.leave(n)
	case api.NodeDiscard:
		g.emit(api.Instr{Op: api.OpDiscard})
	case api.NodeExpr:
		g.forget(n.Kids[0])
	}
}

// inner lays a statement in a scope of its own.
func (g *generator) inner(number int) {
	defer g.giveBack()()
	g.statement(number)
}

// declare gives each variable a register, with its value. Without one it has noughts: something else may have stood there.
func (g *generator) declare(decl api.Node) {
	for _, variable := range decl.Kids {
		register := g.take()
		values := g.Tree.Nodes[variable].Kids
		if len(values) == 0 {
			g.constant(register, api.Vec{})
		}
		for _, value := range values {
			g.expr(value, register)
		}
		g.held[variable] = register
	}
}

// block lays statements in a scope of their own.
func (g *generator) block(n api.Node) {
	defer g.giveBack()()
	for _, statement := range n.Kids {
		g.statement(statement)
	}
}

// choice lays an if.
func (g *generator) choice(n api.Node) {
	defer g.giveBack()()
	asked := g.take()
	g.expr(n.Kids[0], asked)
	first := func() { g.inner(n.Kids[1]) }
	if len(n.Kids) < 3 {
		g.when(asked, first)
		return
	}
	g.either(asked, first, func() { g.inner(n.Kids[2]) })
}

// loop lays out a for, round by round.
func (g *generator) loop(number int) {
	defer g.giveBack()()
	n := g.Tree.Nodes[number]
	register := g.take()
	g.held[number] = register
	for i := g.wholeNumber(n.Kids[0]); i < g.wholeNumber(n.Kids[1]); i++ {
		g.constant(register, api.Vec{i})
		g.inner(n.Kids[2])
	}
}

// wholeNumber answers what a NodeInt says, as a raw.
func (g *generator) wholeNumber(number int) api.Fix {
	x, _ := sense.Convert(api.BaseFloat, api.BaseInt, g.Tree.Nodes[number].Num)
	return x
}

// leave lays a return. Its value may call other functions, so that the stack of ends is asked anew behind it.
func (g *generator) leave(n api.Node) {
	last := len(g.ends) - 1
	for _, value := range n.Kids {
		g.expr(value, g.ends[last].result)
	}
	g.ends[last].jumps = append(g.ends[last].jumps, g.jump(api.Instr{Op: api.OpJump}))
}

// forget lays an expression whose value nothing asks for.
func (g *generator) forget(number int) {
	defer g.giveBack()()
	g.expr(number, g.take())
}
