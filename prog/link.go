package prog

import (
	"paintbox/api"
	"paintbox/check"
	"paintbox/code"
	"paintbox/gen"
)

// linker is two shaders on their way to a program.
type linker struct {
	v, f    api.Shader
	program api.Program
}

// vertex takes the vertex shader, and its attributes.
func (l *linker) vertex() (err api.Errno) {
	l.program.Vertex, err = again(l.v, api.StageVertex)
	c := l.program.Vertex.Checked
	l.program.Attribs = slotsOf(c, c.Attribs)
	return err
}

// fragment takes the fragment shader, and its varyings.
func (l *linker) fragment() (err api.Errno) {
	l.program.Fragment, err = again(l.f, api.StageFragment)
	c := l.program.Fragment.Checked
	l.program.Varyings = slotsOf(c, c.Varyings)
	return err
}

// varyings asks whether the vertex shader has all that the fragment shader is handed.
func (l *linker) varyings() api.Errno {
	c := l.program.Vertex.Checked
	made := slotsOf(c, c.Varyings)
	for _, slot := range l.program.Varyings {
		if _, there := placeOf(made, slot, itself); !there {
			return api.ErrLink
		}
	}
	return api.OK
}

// uniforms puts both shaders' uniforms together; one that both have stands there once.
func (l *linker) uniforms() api.Errno {
	v, f := l.program.Vertex.Checked, l.program.Fragment.Checked
	all := slotsOf(v, v.Uniforms)
	for _, slot := range slotsOf(f, f.Uniforms) {
		place, there := placeOf(all, slot.Name, nameOf)
		switch {
		case !there:
			all = append(all, slot)
		case all[place] != slot:
			return api.ErrLink
		}
	}
	l.program.Uniforms = all
	return api.OK
}

// room asks whether there are not too many uniforms. It comes behind uniforms, for another type is told first, wherever it is met.
func (l *linker) room() api.Errno {
	if len(l.program.Uniforms) > api.MaxUniforms {
		return api.ErrLong
	}
	return api.OK
}

// again answers what comes of a shader's tree anew, in memory of its own; ErrArg, if that is not the shader, or it is not of the stage.
func again(s api.Shader, stage int) (api.Shader, api.Errno) {
	told, spot := check.Check(s.Checked.Tree, stage)
	if spot.Err != api.OK || !check.Same(told, s.Checked) {
		return api.Shader{}, api.ErrArg
	}
	x, err := gen.Gen(told)
	if err != api.OK || !code.Same(x, s.Code) {
		return api.Shader{}, api.ErrArg
	}
	return api.Shader{Checked: told, Code: x}, api.OK
}
