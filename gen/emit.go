package gen

import (
	"paintbox/api"
)

// take answers a register that nothing else stands in. It may hold whatever stood there before.
func (g *generator) take() int {
	register := g.free
	g.free++
	g.code.Regs = max(g.code.Regs, g.free)
	return register
}

// giveBack answers what gives back all registers that are taken from now on.
func (g *generator) giveBack() func() {
	free := g.free
	return func() { g.free = free }
}

// emit lays an instruction.
func (g *generator) emit(i api.Instr) {
	g.code.Instrs = append(g.code.Instrs, i)
}

// constant lays that a register is a vector.
func (g *generator) constant(dst int, v api.Vec) {
	g.emit(api.Instr{Op: api.OpConst, Dst: dst, Imm: v})
}

// pick lays that a register is another one's numbers at these places.
func (g *generator) pick(dst, from int, places []int) {
	g.emit(placed(api.OpPick, dst, from, places))
}

// put lays that a register has another one's numbers at these places.
func (g *generator) put(dst, from int, places []int) {
	g.emit(placed(api.OpPut, dst, from, places))
}

// placed answers an instruction that goes by places.
func placed(op, dst, from int, places []int) api.Instr {
	i := api.Instr{Op: op, Dst: dst, A: from, N: len(places)}
	copy(i.Places[:], places)
	return i
}

// convert lays that a register's first n numbers are of another Base, and that nothing stands behind them.
func (g *generator) convert(register, n, from, to int) {
	g.emit(api.Instr{Op: api.OpConv, Dst: register, A: register, N: n, Base: from, Fn: to})
}

// jump lays a jump whose end is not known yet, and answers its place.
func (g *generator) jump(i api.Instr) int {
	g.emit(i)
	return len(g.code.Instrs) - 1
}

// patch lets these jumps end here.
func (g *generator) patch(jumps ...int) {
	for _, at := range jumps {
		g.code.Instrs[at].A = len(g.code.Instrs)
	}
}

// when lays what is done only if a register's bool is 1.
func (g *generator) when(asked int, lay func()) {
	past := g.jump(api.Instr{Op: api.OpZero, B: asked})
	lay()
	g.patch(past)
}

// either lays what is done if a register's bool is 1, and what is done if it is not.
func (g *generator) either(asked int, lay, other func()) {
	past := 0
	g.when(asked, func() {
		lay()
		past = g.jump(api.Instr{Op: api.OpJump})
	})
	other()
	g.patch(past)
}
