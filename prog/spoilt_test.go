package prog_test

import (
	"slices"

	"paintbox/api"
)

// copiedShader answers a shader of its own memory.
func copiedShader(s api.Shader) api.Shader {
	c := &s.Checked
	c.Tree.Nodes = slices.Clone(c.Tree.Nodes)
	for i := range c.Tree.Nodes {
		c.Tree.Nodes[i].Kids = slices.Clone(c.Tree.Nodes[i].Kids)
	}
	c.Types, c.Uses, c.Fns = slices.Clone(c.Types), slices.Clone(c.Uses), slices.Clone(c.Fns)
	c.Attribs, c.Uniforms, c.Varyings = slices.Clone(c.Attribs), slices.Clone(c.Uniforms), slices.Clone(c.Varyings)
	s.Code.Instrs = slices.Clone(s.Code.Instrs)
	return s
}

// copiedProgram answers a program of its own memory.
func copiedProgram(p api.Program) api.Program {
	return api.Program{Vertex: copiedShader(p.Vertex), Fragment: copiedShader(p.Fragment), Attribs: slices.Clone(p.Attribs), Uniforms: slices.Clone(p.Uniforms), Varyings: slices.Clone(p.Varyings)}
}

// spoiling answers what makes of a shader one that may not be: in one field, in a length.
func spoiling(s api.Shader) []func(*api.Shader) {
	l := []func(*api.Shader){
		func(s *api.Shader) { *s = api.Shader{} },
		func(s *api.Shader) { s.Checked = api.Checked{} },
		func(s *api.Shader) { s.Code = api.Code{} },
	}
	for _, spoil := range spoilingChecked(s.Checked) {
		l = append(l, func(s *api.Shader) { spoil(&s.Checked) })
	}
	for _, spoil := range spoilingCode(s.Code) {
		l = append(l, func(s *api.Shader) { spoil(&s.Code) })
	}
	return l
}

// spoilingChecked answers what makes of a Checked one that Check does not tell.
func spoilingChecked(c api.Checked) []func(*api.Checked) {
	l := []func(*api.Checked){
		func(c *api.Checked) { c.Stage = 0 },
		func(c *api.Checked) { c.Stage = 3 },
		func(c *api.Checked) { c.Stage = vertex + fragment - c.Stage },
		func(c *api.Checked) { c.Main++ },
		func(c *api.Checked) { c.Main = -1 },
		func(c *api.Checked) { c.Types = c.Types[:len(c.Types)-1] },
		func(c *api.Checked) { c.Types = append(c.Types, api.Type{}) },
		func(c *api.Checked) { c.Uses = nil },
		func(c *api.Checked) { c.Uses = append(c.Uses, -1) },
		func(c *api.Checked) { c.Fns = c.Fns[1:] },
		func(c *api.Checked) { c.Fns = append(c.Fns, 0) },
		func(c *api.Checked) { c.Tree.Nodes = nil },
		func(c *api.Checked) { c.Tree.Nodes = c.Tree.Nodes[:len(c.Tree.Nodes)-1] },
		func(c *api.Checked) { c.Tree.Nodes = append(c.Tree.Nodes, api.Node{Kind: api.NodeEmpty}) },
		func(c *api.Checked) { c.Tree.Nodes[0].Kids = []int{0} },
	}
	for _, list := range []func(*api.Checked) *[]int{
		func(c *api.Checked) *[]int { return &c.Attribs },
		func(c *api.Checked) *[]int { return &c.Uniforms },
		func(c *api.Checked) *[]int { return &c.Varyings },
	} {
		l = append(l, func(c *api.Checked) { *list(c) = append(*list(c), 2) }, func(c *api.Checked) { *list(c) = append(*list(c), -1) })
		for i := range *list(&c) {
			l = append(l, func(c *api.Checked) { (*list(c))[i]++ }, func(c *api.Checked) { (*list(c))[i] = 1 << 40 }, func(c *api.Checked) { *list(c) = slices.Delete(*list(c), i, i+1) })
		}
	}
	for i := range c.Tree.Nodes {
		l = append(l,
			func(c *api.Checked) { c.Types[i].Base++ },
			func(c *api.Checked) { c.Types[i].Size = 5 },
			func(c *api.Checked) { c.Uses[i] = 99 },
			func(c *api.Checked) { c.Fns[i]++ },
			func(c *api.Checked) { c.Tree.Nodes[i].Kind = 99 },
			func(c *api.Checked) { c.Tree.Nodes[i].At = -1 },
			func(c *api.Checked) { c.Tree.Nodes[i].Kids = append(c.Tree.Nodes[i].Kids, 1) },
		)
		if c.Tree.Nodes[i].Kind != api.NodeInt && c.Tree.Nodes[i].Kind != api.NodeFloat {
			l = append(l, func(c *api.Checked) { c.Tree.Nodes[i].Num++ })
		}
	}
	return l
}

// spoilingCode answers what makes of a code another one.
func spoilingCode(c api.Code) []func(*api.Code) {
	l := []func(*api.Code){
		func(c *api.Code) { c.Stage = 0 },
		func(c *api.Code) { c.Stage = vertex + fragment - c.Stage },
		func(c *api.Code) { c.Regs++ },
		func(c *api.Code) { c.Regs-- },
		func(c *api.Code) { c.Attribs++ },
		func(c *api.Code) { c.Uniforms++ },
		func(c *api.Code) { c.Uniforms-- },
		func(c *api.Code) { c.Varyings++ },
		func(c *api.Code) { c.Varyings-- },
		func(c *api.Code) { c.Instrs = nil },
		func(c *api.Code) { c.Instrs = append(c.Instrs, api.Instr{}) },
		func(c *api.Code) { c.Instrs = append(c.Instrs, api.Instr{Op: api.OpConst}) },
		func(c *api.Code) { c.Instrs = c.Instrs[:len(c.Instrs)-1] },
		func(c *api.Code) { c.Instrs = c.Instrs[1:] },
	}
	for i := range c.Instrs {
		l = append(l,
			func(c *api.Code) { c.Instrs[i].Op++ },
			func(c *api.Code) { c.Instrs[i].Fn++ },
			func(c *api.Code) { c.Instrs[i].Base++ },
			func(c *api.Code) { c.Instrs[i].N++ },
			func(c *api.Code) { c.Instrs[i].Dst++ },
			func(c *api.Code) { c.Instrs[i].A++ },
			func(c *api.Code) { c.Instrs[i].B-- },
			func(c *api.Code) { c.Instrs[i].C++ },
			func(c *api.Code) { c.Instrs[i].Imm[i%4]++ },
			func(c *api.Code) { c.Instrs[i].Places[i%4] ^= 1 },
		)
	}
	return l
}

// worsen changes, by chance, one thing in a draft, so that the two shaders may not go together any more.
func (d *draft) worsen() {
	switch d.below(5) {
	case 0: // a varying of another type
		if len(d.taken) > 0 {
			d.taken[d.below(len(d.taken))].kind = d.of(floats()...)
		}
	case 1: // a varying of another name
		if len(d.taken) > 0 {
			d.taken[d.below(len(d.taken))].name = "other"
		}
	case 2: // a varying that the vertex shader has as something else
		if l := slices.Concat(d.attribs, d.vUniforms); len(l) > 0 && len(d.taken) > 0 {
			name := l[d.below(len(l))].name
			if !slices.ContainsFunc(d.fUniforms, func(x item) bool { return x.name == name }) {
				d.taken[0].name = name
			}
		}
	case 3: // a uniform of another type
		if len(d.fUniforms) > 0 {
			d.fUniforms[d.below(len(d.fUniforms))].kind = d.of(kinds()...)
		}
	case 4: // many uniforms
		for _, name := range names(40)[24:] {
			d.vUniforms = append(d.vUniforms, item{"float", name})
			d.fUniforms = append(d.fUniforms, item{"float", name + d.of("", "_", "_")})
		}
	}
}
