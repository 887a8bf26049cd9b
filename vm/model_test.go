package vm_test

import (
	"testing"

	"paintbox/api"
	"paintbox/code"
	"paintbox/sample"
	"paintbox/sense"
)

// register tells a register among those of a code.
func (c *chance) register(x api.Code) int { return c.below(x.Regs) }

// places tells n places; none twice, if each is to be written.
func (c *chance) places(n int, once bool) []int {
	l := []int{0, 1, 2, 3}
	for k := range n {
		if other := k + c.below(4-k); once {
			l[k], l[other] = l[other], l[k]
		} else {
			l[k] = c.below(4)
		}
	}
	return l[:n]
}

// head tells a code without instructions, of either stage, that has at least one of each list.
func (c *chance) head() api.Code {
	x := api.Code{Stage: 1 + c.below(2), Regs: 1 + c.below(6), Uniforms: 1 + c.below(4), Varyings: 1 + c.below(4)}
	if x.Stage == vertex {
		x.Attribs = 1 + c.below(4)
	}
	return x
}

// code tells a code that may be, of up to so many instructions.
func (c *chance) code(most int) api.Code {
	x := c.head()
	n := c.below(most + 1)
	for k := range n {
		x.Instrs = append(x.Instrs, c.instr(x, k, n))
	}
	return x
}

// instr tells an instruction that may be at the place k of n.
func (c *chance) instr(x api.Code, k, n int) api.Instr {
	dst, a, b := c.register(x), c.register(x), c.register(x)
	switch c.below(16) {
	case 0, 1:
		return constant(dst, c.vector())
	case 2:
		return constant(dst, api.Vec{api.Fix(c.below(7) - 1), c.raw()})
	case 3:
		return move(dst, a)
	case 4, 5:
		return c.load(x, dst)
	case 6, 7:
		return c.store(x, b)
	case 8, 9, 10:
		return c.do(x, dst)
	case 11:
		return pick(dst, a, c.places(1+c.below(4), false)...)
	case 12:
		return put(dst, a, c.places(1+c.below(4), true)...)
	case 13:
		return conv(dst, a, 1+c.below(3), 1+c.below(3), 1+c.below(4))
	case 14:
		return tex(dst, a, b)
	}
	to := k + 1 + c.below(min(n-k, 6))
	switch {
	case x.Stage == fragment && c.yes(4):
		return discard()
	case c.yes(3):
		return jump(to)
	}
	return zero(to, b)
}

// load tells an OpLoad of what the stage has.
func (c *chance) load(x api.Code, dst int) api.Instr {
	switch {
	case c.yes(3):
		return load(dst, api.FromUniform, c.below(x.Uniforms))
	case x.Stage == vertex:
		return load(dst, api.FromAttrib, c.below(x.Attribs))
	case c.yes(2):
		return load(dst, api.FromVarying, c.below(x.Varyings))
	}
	return load(dst, api.FromCoord+c.below(3), 0)
}

// store tells an OpStore to what the stage has.
func (c *chance) store(x api.Code, b int) api.Instr {
	switch {
	case x.Stage == fragment:
		return paint(b)
	case c.yes(2):
		return store(api.ToVarying, c.below(x.Varyings), b)
	}
	return store(api.ToPosition+c.below(2), 0, b)
}

// do tells an OpDo of any function, with any base that it takes.
func (c *chance) do(x api.Code, dst int) api.Instr {
	for {
		fn, base := 1+c.below(35), 1+c.below(3)
		if count := code.Args(fn, base); count > 0 {
			var l []int
			for range count {
				l = append(l, c.register(x))
			}
			return do(dst, fn, base, 1+c.below(4), l...)
		}
	}
}

// surroundings tells such that fit a code.
func (c *chance) surroundings(x api.Code) api.Env {
	e := api.Env{Attribs: c.vectors(x.Attribs), Uniforms: c.vectors(x.Uniforms), Coord: c.vector(), Front: c.yes(2), Point: c.vector(), Images: pictures()[:c.below(6)]}
	if x.Stage == fragment {
		e.Varyings = c.vectors(x.Varyings)
	}
	return e
}

// model does what a code says a second time, by the words of chapters 15, 16 and 18.
type model struct {
	regs []api.Vec
	env  api.Env
	out  api.Result
}

// obeyed answers what comes of a code, and the places of what is done.
func obeyed(t *testing.T, c api.Code, e api.Env) (api.Result, []int) {
	t.Helper()
	m := model{regs: make([]api.Vec, c.Regs), env: e}
	if c.Stage == vertex {
		m.out.Varyings = make([]api.Vec, c.Varyings)
	}
	var places []int
	for at, next := 0, 0; at < len(c.Instrs); at = next {
		i := c.Instrs[at]
		places, next = append(places, at), at+1
		switch {
		case i.Op == api.OpDiscard:
			return api.Result{Discard: true}, places
		case i.Op == api.OpJump, i.Op == api.OpZero && m.regs[i.B][0] == 0:
			next = i.A
		case i.Op == api.OpStore:
			*m.target(i) = m.regs[i.B]
			if i.Fn == api.ToSize {
				m.out.Size = m.regs[i.B][0]
			}
		case i.Op != api.OpZero:
			m.regs[i.Dst] = m.value(t, i)
		}
	}
	return m.out, places
}

// target answers where an OpStore lays a vector.
func (m *model) target(i api.Instr) *api.Vec {
	switch i.Fn {
	case api.ToPosition:
		return &m.out.Position
	case api.ToVarying:
		return &m.out.Varyings[i.A]
	case api.ToColor:
		return &m.out.Color
	}
	return &api.Vec{}
}

// value answers what an instruction's Dst becomes.
func (m *model) value(t *testing.T, i api.Instr) api.Vec {
	t.Helper()
	v := m.regs[i.Dst]
	switch i.Op {
	case api.OpConst:
		v = i.Imm
	case api.OpMove:
		v = m.regs[i.A]
	case api.OpLoad:
		v = m.loaded(i)
	case api.OpDo:
		l := []api.Vec{m.regs[i.A], m.regs[i.B], m.regs[i.C]}
		x, err := sense.Apply(i.Fn, i.Base, i.N, l[:code.Args(i.Fn, i.Base)]...)
		if err != api.OK {
			t.Fatalf("%v: %d", i, err)
		}
		v = x
	case api.OpPick:
		v = each(i.N, func(k int) api.Fix { return m.regs[i.A][i.Places[k]] })
	case api.OpPut:
		for k, place := range i.Places[:i.N] {
			v[place] = m.regs[i.A][k]
		}
	case api.OpConv:
		v = each(i.N, func(k int) api.Fix {
			x, _ := sense.Convert(i.Base, i.Fn, m.regs[i.A][k])
			return x
		})
	case api.OpTex:
		v = m.textured(m.regs[i.A][0], m.regs[i.B])
	}
	return v
}

// loaded answers what an OpLoad comes to.
func (m *model) loaded(i api.Instr) api.Vec {
	front := api.Vec{}
	if m.env.Front {
		front[0] = 1
	}
	lists := map[int][]api.Vec{
		api.FromAttrib: m.env.Attribs, api.FromUniform: m.env.Uniforms, api.FromVarying: m.env.Varyings,
		api.FromCoord: {m.env.Coord}, api.FromFront: {front}, api.FromPoint: {{m.env.Point[0], m.env.Point[1]}},
	}
	return lists[i.Fn][i.A]
}

// textured answers texture2D of an image.
func (m *model) textured(image api.Fix, at api.Vec) api.Vec {
	for k, x := range m.env.Images {
		if v, err := sample.At(x, at[0], at[1], 0); api.Fix(k) == image && err == api.OK {
			return v
		}
	}
	return api.Vec{0, 0, 0, one}
}
