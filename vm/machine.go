package vm

import (
	"paintbox/api"
	"paintbox/sample"
	"paintbox/vec"
)

// machine is a run: its surroundings, its registers, and what has come of it so far.
type machine struct {
	api.Env
	regs []api.Vec
	out  api.Result
}

// newMachine answers a machine at the beginning of a run of a code that may be, in surroundings that fit it.
func newMachine(c api.Code, e api.Env) *machine {
	m := &machine{Env: e, regs: make([]api.Vec, c.Regs)}
	if c.Stage == api.StageVertex {
		m.out.Varyings = make([]api.Vec, c.Varyings)
	}
	return m
}

// run does the instructions from the first one on, and tells see the place of each ahead of it. Jumps go forward alone, so it ends.
func (m *machine) run(l []api.Instr, see func(place int)) {
	at := 0
walk:
	for at < len(l) {
		see(at)
		switch i := l[at]; i.Op {
		case api.OpJump:
			at = i.A
			continue walk
		case api.OpZero:
			if m.regs[i.B][0] == 0 {
				at = i.A
				continue walk
			}
		case api.OpDiscard:
			m.out = api.Result{Discard: true}
			break walk
		case api.OpStore:
			m.store(i)
		default:
			m.regs[i.Dst] = m.value(i)
		}
		at++
	}
}

// value answers what the register Dst becomes by an instruction that writes one.
func (m *machine) value(i api.Instr) api.Vec {
	switch i.Op {
	case api.OpConst:
		return i.Imm
	case api.OpMove:
		return m.regs[i.A]
	case api.OpLoad:
		return m.load(i)
	case api.OpDo:
		// The arguments that Fn does not take are 0: if there is a Dst, there is a register 0 as well.
		return done(i.Fn, i.Base, i.N, m.regs[i.A], m.regs[i.B], m.regs[i.C])
	case api.OpPick:
		v, _ := vec.Pick(m.regs[i.A], i.Places[:i.N]...)
		return v
	case api.OpPut:
		v, _ := vec.Put(m.regs[i.Dst], m.regs[i.A], i.Places[:i.N]...)
		return v
	case api.OpConv:
		return converted(i.Base, i.Fn, i.N, m.regs[i.A])
	}
	return m.texture(m.regs[i.A], m.regs[i.B])
}

// load answers what an OpLoad loads.
func (m *machine) load(i api.Instr) api.Vec {
	switch i.Fn {
	case api.FromAttrib:
		return m.Attribs[i.A]
	case api.FromUniform:
		return m.Uniforms[i.A]
	case api.FromVarying:
		return m.Varyings[i.A]
	case api.FromCoord:
		return m.Coord
	case api.FromFront:
		return truth(m.Front)
	}
	return api.Vec{m.Point[0], m.Point[1]}
}

// store does an OpStore.
func (m *machine) store(i api.Instr) {
	v := m.regs[i.B]
	switch i.Fn {
	case api.ToPosition:
		m.out.Position = v
	case api.ToSize:
		m.out.Size = v[0]
	case api.ToVarying:
		m.out.Varyings[i.A] = v
	case api.ToColor:
		m.out.Color = v
	}
}

// texture answers the colour of the image that a sampler says; black, if there is none.
func (m *machine) texture(sampler, at api.Vec) api.Vec {
	if place := int(sampler[0]); place >= 0 && place < len(m.Images) {
		if v, err := sample.At(m.Images[place], at[0], at[1], 0); err == api.OK {
			return v
		}
	}
	return api.Vec{0, 0, 0, api.One}
}
