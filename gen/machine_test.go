package gen_test

import (
	"strings"
	"testing"

	"paintbox/api"
	"paintbox/code"
	"paintbox/sample"
	"paintbox/sense"
)

// machine does what a code says, by the words of chapters 16 and 17.
type machine struct {
	api.Code
	env  api.Env
	regs []api.Vec
	out  api.Result
}

// obeyed answers what comes of a code.
func obeyed(t *testing.T, c api.Code, e api.Env) api.Result {
	t.Helper()
	m := &machine{Code: c, env: e, regs: make([]api.Vec, c.Regs)}
	if c.Stage == vertex {
		m.out.Varyings = make([]api.Vec, c.Varyings)
	}
	for at := 0; at < len(c.Instrs); {
		i := c.Instrs[at]
		at++
		switch i.Op {
		case api.OpDiscard:
			return api.Result{Discard: true}
		case api.OpJump:
			at = i.A
		case api.OpZero:
			if m.regs[i.B][0] == 0 {
				at = i.A
			}
		case api.OpStore:
			m.store(i)
		default:
			v, is := m.value(i)
			if !is {
				t.Fatalf("instruction %d: %v", at-1, i)
			}
			m.regs[i.Dst] = v
		}
	}
	return m.out
}

// store does an OpStore.
func (m *machine) store(i api.Instr) {
	v := m.regs[i.B]
	switch i.Fn {
	case api.ToPosition:
		m.out.Position = v
	case api.ToSize:
		m.out.Size = v[0]
	case api.ToVarying:
		m.out.Varyings[i.A] = v
	case api.ToColor:
		m.out.Color = v
	}
}

// value answers what an instruction's Dst becomes.
func (m *machine) value(i api.Instr) (v api.Vec, is bool) {
	switch i.Op {
	case api.OpConst:
		return i.Imm, true
	case api.OpMove:
		return m.regs[i.A], true
	case api.OpLoad:
		return m.load(i)
	case api.OpDo:
		return m.do(i)
	case api.OpPick:
		for k, place := range i.Places[:i.N] {
			v[k] = m.regs[i.A][place]
		}
	case api.OpPut:
		v = m.regs[i.Dst]
		for k, place := range i.Places[:i.N] {
			v[place] = m.regs[i.A][k]
		}
	case api.OpConv:
		for k := range i.N {
			v[k], _ = sense.Convert(i.Base, i.Fn, m.regs[i.A][k])
		}
	case api.OpTex:
		return m.texture(m.regs[i.A], m.regs[i.B]), true
	default:
		return v, false
	}
	return v, true
}

// do answers what an OpDo does.
func (m *machine) do(i api.Instr) (api.Vec, bool) {
	args := []api.Vec{m.regs[i.A], m.regs[i.B], m.regs[i.C]}
	v, err := sense.Apply(i.Fn, i.Base, i.N, args[:code.Args(i.Fn, i.Base)]...)
	return v, err == api.OK
}

// load answers what an OpLoad loads.
func (m *machine) load(i api.Instr) (v api.Vec, is bool) {
	switch i.Fn {
	case api.FromAttrib:
		return m.env.Attribs[i.A], true
	case api.FromUniform:
		return m.env.Uniforms[i.A], true
	case api.FromVarying:
		return m.env.Varyings[i.A], true
	case api.FromCoord:
		return m.env.Coord, true
	case api.FromFront:
		if m.env.Front {
			v[0] = 1
		}
		return v, true
	case api.FromPoint:
		return api.Vec{m.env.Point[0], m.env.Point[1]}, true
	}
	return v, false
}

// texture answers texture2D.
func (m *machine) texture(sampler, at api.Vec) api.Vec {
	if place := int(sampler[0]); place >= 0 && place < len(m.env.Images) {
		if v, err := sample.At(m.env.Images[place], at[0], at[1], 0); err == api.OK {
			return v
		}
	}
	return api.Vec{0, 0, 0, one}
}

// forVertex answers a fragment shader's text with gl_Position in the place of gl_FragColor, if nothing else of it belongs to its stage.
func forVertex(text string) (string, bool) {
	text = strings.ReplaceAll(text, "gl_FragColor", "gl_Position")
	for _, word := range []string{"discard", "gl_FragCoord", "gl_FrontFacing", "gl_PointCoord", "varying"} {
		if strings.Contains(text, word) {
			return "", false
		}
	}
	return text, true
}

// P17.1: the machine against codes whose end is told by chapter 18's examples.
func TestMachine(t *testing.T) {
	picks := api.Code{Stage: fragment, Regs: 2, Instrs: []api.Instr{
		{Op: api.OpConst, Imm: numbers(1, 2, 3, 4)},
		{Op: api.OpPick, Dst: 1, N: 4, Places: [4]int{3, 2, 1, 0}},
		{Op: api.OpStore, Fn: api.ToColor, B: 1},
	}}
	if x := obeyed(t, picks, api.Env{}); !alike(x, api.Result{Color: numbers(4, 3, 2, 1)}) {
		t.Error(x)
	}
	jumps := api.Code{Stage: fragment, Regs: 2, Uniforms: 1, Instrs: []api.Instr{
		{Op: api.OpLoad, Fn: api.FromUniform},
		{Op: api.OpZero, A: 4},
		{Op: api.OpConst, Dst: 1, Imm: numbers(1, 1, 1, 1)},
		{Op: api.OpStore, Fn: api.ToColor, B: 1},
	}}
	for v, want := range map[api.Vec]api.Vec{{}: {}, {0, 1}: {}, {1}: numbers(1, 1, 1, 1), {-1}: numbers(1, 1, 1, 1)} {
		if x := obeyed(t, jumps, api.Env{Uniforms: []api.Vec{v}}); !alike(x, api.Result{Color: want}) {
			t.Error(v, x)
		}
	}
	ends := api.Code{Stage: fragment, Regs: 1, Instrs: []api.Instr{{Op: api.OpDiscard}, {Op: api.OpStore, Fn: api.ToColor}}}
	if x := obeyed(t, ends, api.Env{}); !alike(x, api.Result{Discard: true}) {
		t.Error(x)
	}
}
