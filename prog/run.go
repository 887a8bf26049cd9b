package prog

import (
	"paintbox/api"
	"paintbox/vm"
)

// RunVertex answers what comes of a program's vertex shader in these surroundings; of its varyings those that the fragment shader is handed.
func RunVertex(p api.Program, e api.Env) (api.Result, api.Errno) {
	if len(e.Attribs) != len(p.Attribs) || len(e.Varyings) > 0 {
		return api.Result{}, api.ErrArg
	}
	x, err := run(p.Vertex, p.Uniforms, e)
	if err != api.OK {
		return api.Result{}, err
	}
	c := p.Vertex.Checked
	varyings, there := carry(p.Varyings, slotsOf(c, c.Varyings), x.Varyings)
	if !there {
		return api.Result{}, api.ErrArg
	}
	x.Varyings = varyings
	return x, api.OK
}

// RunFragment answers what comes of a program's fragment shader in these surroundings.
func RunFragment(p api.Program, e api.Env) (api.Result, api.Errno) {
	if len(e.Varyings) != len(p.Varyings) || len(e.Attribs) > 0 {
		return api.Result{}, api.ErrArg
	}
	return run(p.Fragment, p.Uniforms, e)
}

// run runs a shader's code in surroundings that have the uniforms of a whole program.
func run(s api.Shader, uniforms []api.Slot, e api.Env) (api.Result, api.Errno) {
	if len(e.Uniforms) != len(uniforms) {
		return api.Result{}, api.ErrArg
	}
	own, there := carry(slotsOf(s.Checked, s.Checked.Uniforms), uniforms, e.Uniforms)
	if !there {
		return api.Result{}, api.ErrArg
	}
	e.Uniforms = own
	return vm.Run(s.Code, e)
}
