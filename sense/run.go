package sense

import (
	"paintbox/api"
)

// flow is what a statement tells of what is behind it.
type flow int

const (
	goesOn  flow = iota
	returns      // the function ends
	ends         // all ends
)

// runner is a run: the shader, what its variables hold, by their nodes (the built-in ones by what Uses tells of them), the images, the value of the last return, and whether all has ended. No function calls itself, so that a node stands for one variable at a time.
type runner struct {
	api.Checked
	held   map[int]api.Vec
	images []api.Image
	result api.Vec
	ended  bool
}

// begin answers a run up to main's statements.
func begin(c api.Checked, e api.Env) *runner {
	r := &runner{Checked: c, held: map[int]api.Vec{}, images: e.Images}
	r.hand(c.Attribs, e.Attribs)
	r.hand(c.Uniforms, e.Uniforms)
	r.hand(c.Varyings, e.Varyings)
	r.held[api.UseFragCoord] = e.Coord
	r.held[api.UseFront] = truth(e.Front)
	r.held[api.UsePointCoord] = api.Vec{e.Point[0], e.Point[1]}
	r.holdWhole()
	return r
}

// hand lets variables hold what the surroundings have for them. There may be fewer of these: a vertex shader's varyings are handed nothing.
func (r *runner) hand(variables []int, handed []api.Vec) {
	for i, numbers := range handed {
		variable := variables[i]
		r.held[variable] = valueOf(r.Types[variable], numbers)
	}
}

// holdWhole lets the variables of the whole shader that have a value hold it.
func (r *runner) holdWhole() {
	for _, number := range r.Tree.Nodes[0].Kids {
		if r.Tree.Nodes[number].Kind == api.NodeDecl {
			r.holdValues(r.Tree.Nodes[number])
		}
	}
}

// holdConstants lets all constants hold their values, wherever they stand. None of them asks for one that stands behind it.
func (r *runner) holdConstants() {
	for _, n := range r.Tree.Nodes {
		if n.Kind == api.NodeDecl && n.Text == "const" {
			r.holdValues(n)
		}
	}
}

// holdValues lets the variables of a declaration that have a value hold it; what the others hold stays.
func (r *runner) holdValues(decl api.Node) {
	for _, variable := range decl.Kids {
		for _, value := range r.Tree.Nodes[variable].Kids {
			r.held[variable] = r.expr(value)
		}
	}
}

// comes answers what has come of a run.
func (r *runner) comes() api.Result {
	switch {
	case r.ended:
		return api.Result{Discard: true}
	case r.Stage == api.StageFragment:
		return api.Result{Color: r.held[api.UseFragColor]}
	}
	x := api.Result{Position: r.held[api.UsePosition], Size: r.held[api.UsePointSize][0]}
	for _, varying := range r.Varyings {
		x.Varyings = append(x.Varyings, r.held[varying])
	}
	return x
}

// perform calls a function of the shader with these arguments.
func (r *runner) perform(function int, args ...api.Vec) api.Vec {
	kids := r.Tree.Nodes[function].Kids
	for i, arg := range args {
		r.held[kids[i]] = arg
	}
	switch r.statement(kids[len(kids)-1]) {
	case returns:
		return r.result
	case ends:
		r.ended = true
	}
	return api.Vec{}
}

// statement does a statement. Where all ended within an expression of it, that is told here.
func (r *runner) statement(number int) flow {
	told := r.do(number)
	if r.ended {
		return ends
	}
	return told
}

// do does a statement of whatever kind.
func (r *runner) do(number int) flow {
	n := r.Tree.Nodes[number]
	switch n.Kind {
	case api.NodeDecl:
		r.declare(n)
	case api.NodeBlock:
		return r.block(n)
	case api.NodeIf:
		return r.choice(n)
	case api.NodeFor:
		return r.loop(number)
	case api.NodeReturn:
		for _, value := range n.Kids {
			r.result = r.expr(value)
		}
		return returns
	case api.NodeDiscard:
		return ends
	case api.NodeExpr:
		r.expr(n.Kids[0])
	}
	return goesOn
}

// declare lets each variable hold its value, and noughts without one: it may hold what it held a round or a call ago.
func (r *runner) declare(decl api.Node) {
	for _, variable := range decl.Kids {
		var v api.Vec
		for _, value := range r.Tree.Nodes[variable].Kids {
			v = r.expr(value)
		}
		r.held[variable] = v
	}
}

// block does statements, up to one behind which it does not go on.
func (r *runner) block(n api.Node) flow {
	for _, statement := range n.Kids {
		if told := r.statement(statement); told != goesOn {
			return told
		}
	}
	return goesOn
}

// choice does an if.
func (r *runner) choice(n api.Node) flow {
	asked := r.expr(n.Kids[0])
	switch {
	case r.ended:
		return ends
	case asked[0] == 1:
		return r.statement(n.Kids[1])
	case len(n.Kids) == 3:
		return r.statement(n.Kids[2])
	}
	return goesOn
}

// loop does a for.
func (r *runner) loop(number int) flow {
	n := r.Tree.Nodes[number]
	first, second := bounds(r.Tree, n)
	told := goesOn
rounds:
	for i := first; i < second; i++ {
		r.held[number] = api.Vec{api.Fix(i)}
		switch told = r.statement(n.Kids[2]); told {
		case returns, ends:
			break rounds
		}
	}
	return told
}
