package sense

import (
	"paintbox/api"
	"paintbox/fix"
	"paintbox/kinds"
	"paintbox/sample"
	"paintbox/vec"
)

// expr does an expression, and answers its value. Behind a discard none is done any more.
func (r *runner) expr(number int) api.Vec {
	if r.ended {
		return api.Vec{}
	}
	n := r.Tree.Nodes[number]
	switch n.Kind {
	case api.NodeInt:
		return api.Vec{api.Fix(fix.Int(n.Num))}
	case api.NodeFloat:
		return api.Vec{n.Num}
	case api.NodeBool:
		return truth(n.Text == "true")
	case api.NodeName:
		return r.held[r.Uses[number]]
	case api.NodeField:
		v, _ := vec.Pick(r.expr(n.Kids[0]), r.places(n)...)
		return v
	case api.NodeUnary:
		return r.apply(unary(n.Text), n.Kids, r.expr(n.Kids[0]))
	case api.NodeBinary:
		return r.binary(n)
	case api.NodeCond:
		return r.cond(n)
	case api.NodeAssign:
		return r.assign(n)
	case api.NodeCall:
		return r.call(number)
	}
	return api.Vec{}
}

// unary answers the operation of an operator ahead of a value.
func unary(op string) int {
	if op == "!" {
		return api.FnNot
	}
	return api.FnNeg
}

// operator answers the operation of an operator between two values, or of one that assigns.
func operator(op string) int {
	switch op {
	case "+", "+=":
		return api.FnAdd
	case "-", "-=":
		return api.FnSub
	case "*", "*=":
		return api.FnMul
	case "/", "/=":
		return api.FnDiv
	case "<":
		return api.FnLess
	case ">":
		return api.FnMore
	case "<=":
		return api.FnAtMost
	case ">=":
		return api.FnAtLeast
	case "==":
		return api.FnSame
	}
	return api.FnOther
}

// apply does an operation to the values of these nodes. A plain one's number stands in as many places as the others have.
func (r *runner) apply(fn int, numbers []int, values ...api.Vec) api.Vec {
	size := 0
	for _, number := range numbers {
		size = max(size, r.Types[number].Size)
	}
	var l []api.Vec
	for i, number := range numbers {
		v := values[i]
		if r.Types[number].Size == 1 {
			v, _ = vec.All(size, v[0])
		}
		l = append(l, v)
	}
	v, _ := Apply(fn, r.Types[numbers[0]].Base, size, l...)
	return v
}

// binary does an operator between two; where the first one says it all, the second one is not looked at.
func (r *runner) binary(n api.Node) api.Vec {
	a := r.expr(n.Kids[0])
	switch {
	case n.Text == "&&" && a[0] == 0, n.Text == "||" && a[0] == 1:
		return a
	case n.Text == "&&", n.Text == "||":
		return r.expr(n.Kids[1])
	}
	return r.apply(operator(n.Text), n.Kids, a, r.expr(n.Kids[1]))
}

// cond does one of two expressions alone.
func (r *runner) cond(n api.Node) api.Vec {
	if r.expr(n.Kids[0])[0] == 1 {
		return r.expr(n.Kids[1])
	}
	return r.expr(n.Kids[2])
}

// assign gives a value to a place. What the place holds is asked behind the value, which may have changed it.
func (r *runner) assign(n api.Node) api.Vec {
	place := n.Kids[0]
	v := r.expr(n.Kids[1])
	if n.Text != "=" {
		v = r.apply(operator(n.Text), n.Kids, r.expr(place), v)
	}
	use, places := r.place(place)
	r.held[use], _ = vec.Put(r.held[use], v, places...)
	return v
}

// place answers which variable a place is of, and which places of it.
func (r *runner) place(number int) (int, []int) {
	n := r.Tree.Nodes[number]
	if n.Kind == api.NodeName {
		return r.Uses[number], []int{0, 1, 2, 3}[:r.Types[number].Size]
	}
	use, within := r.place(n.Kids[0])
	var l []int
	for _, at := range r.places(n) {
		l = append(l, within[at])
	}
	return use, l
}

// places answers the places that a field's name says of its kid.
func (r *runner) places(n api.Node) []int {
	_, l, _ := kinds.Field(r.Types[n.Kids[0]], n.Text)
	return l
}

// call does a call. All arguments have their values ahead of it: one of them may call the same function.
func (r *runner) call(number int) api.Vec {
	n := r.Tree.Nodes[number]
	var args []api.Vec
	for _, kid := range n.Kids {
		args = append(args, r.expr(kid))
	}
	if r.ended {
		return api.Vec{}
	}
	switch fn := r.Fns[number]; fn {
	case 0:
		return r.perform(r.Uses[number], args...)
	case api.FnMake:
		return r.assemble(number, args...)
	case api.FnTexture:
		return r.texture(args[0], args[1])
	default:
		return r.apply(fn, n.Kids, args...)
	}
}

// assemble makes a value of a type out of the numbers of others.
func (r *runner) assemble(number int, args ...api.Vec) api.Vec {
	kind := r.Types[number]
	var l []api.Fix
	for i, kid := range r.Tree.Nodes[number].Kids {
		from := r.Types[kid]
		for _, x := range args[i][:from.Size] {
			x, _ = Convert(from.Base, kind.Base, x)
			l = append(l, x)
		}
	}
	if len(l) == 1 {
		v, _ := vec.All(kind.Size, l[0])
		return v
	}
	var v api.Vec
	copy(v[:kind.Size], l)
	return v
}

// texture answers the colour of the image that a sampler says; black, if there is none.
func (r *runner) texture(sampler, at api.Vec) api.Vec {
	if place := int(sampler[0]); place >= 0 && place < len(r.images) {
		if v, err := sample.At(r.images[place], at[0], at[1], 0); err == api.OK {
			return v
		}
	}
	return api.Vec{0, 0, 0, api.One}
}
