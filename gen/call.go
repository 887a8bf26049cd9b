package gen

import (
	"paintbox/api"
)

// call lays a call, of whatever is called.
func (g *generator) call(number, dst int) {
	kids := g.Tree.Nodes[number].Kids
	switch fn := g.Fns[number]; fn {
	case 0:
		g.perform(g.Uses[number], kids, dst)
	case api.FnMake:
		g.assemble(g.Types[number], kids, dst)
	case api.FnTexture:
		g.texture(kids, dst)
	default:
		g.apply(fn, kids, dst)
	}
}

// perform lays a call of a function of the shader. The parameters stand where the arguments' values do, from behind the last one on: an argument may call the same function. The value is noughts, if no return is met.
func (g *generator) perform(function int, args []int, dst int) {
	defer g.giveBack()()
	registers := g.values(args)
	for i, register := range registers {
		g.held[g.Tree.Nodes[function].Kids[i]] = register
	}
	g.constant(dst, api.Vec{})
	g.function(function, dst)
}

// texture lays a call of texture2D.
func (g *generator) texture(args []int, dst int) {
	defer g.giveBack()()
	registers := g.values(args)
	g.emit(api.Instr{Op: api.OpTex, Dst: dst, A: registers[0], B: registers[1]})
}

// assemble lays that a value of a type is made of the numbers of others; a single number stands in all places.
func (g *generator) assemble(kind api.Type, args []int, dst int) {
	if len(args) == 1 && g.Types[args[0]].Size == 1 {
		g.part(kind, args[0], dst)
		if kind.Size > 1 {
			g.spread(dst, kind.Size)
		}
		return
	}
	defer g.giveBack()()
	g.constant(dst, api.Vec{})
	part := g.take()
	places := upTo(kind.Size)
	for _, arg := range args {
		g.part(kind, arg, part)
		n := min(g.Types[arg].Size, len(places))
		g.put(dst, part, places[:n])
		places = places[n:]
	}
}

// part lays an expression whose numbers become those of a type's Base.
func (g *generator) part(kind api.Type, number, dst int) {
	g.expr(number, dst)
	if from := g.Types[number]; from.Base != kind.Base {
		g.convert(dst, from.Size, from.Base, kind.Base)
	}
}
