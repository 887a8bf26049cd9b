package check

import (
	"slices"

	"paintbox/api"
	"paintbox/kinds"
	"paintbox/parse"
)

// expr walks an expression: its kids, of whatever kind it is, and then itself, by their types.
func (w *walker) expr(number int) error {
	n := w.Tree.Nodes[number]
	if err := each(n.Kids, w.expr); err != nil {
		return err
	}
	kind, err := w.comes(number)
	if err != api.OK {
		return faultAt(err, n.At)
	}
	w.Types[number] = kind
	return nil
}

// comes answers the type of an expression whose kids have theirs.
func (w *walker) comes(number int) (api.Type, api.Errno) {
	n := w.Tree.Nodes[number]
	of := w.typesOf(n.Kids)
	switch n.Kind {
	case api.NodeAssign:
		if !w.isWritable(n.Kids[0]) {
			return api.Type{}, api.ErrPlace
		}
		return taken(kinds.Assign(n.Text, of[0], of[1]))
	case api.NodeCond:
		return taken(kinds.Cond(of[0], of[1], of[2]))
	case api.NodeBinary:
		return taken(kinds.Binary(n.Text, of[0], of[1]))
	case api.NodeUnary:
		return taken(kinds.Unary(n.Text, of[0]))
	case api.NodeField:
		return field(of[0], n.Text)
	case api.NodeCall:
		return w.call(number, of)
	case api.NodeName:
		return w.name(number)
	case api.NodeInt:
		return typeOf("int"), api.OK
	case api.NodeFloat:
		return typeOf("float"), api.OK
	}
	return typeOf("bool"), api.OK // a NodeBool, for no other expression is left
}

// typesOf answers the types of nodes.
func (w *walker) typesOf(numbers []int) []api.Type {
	var l []api.Type
	for _, number := range numbers {
		l = append(l, w.Types[number])
	}
	return l
}

// taken answers what comes, if it was taken; of all that was not it is the types that did not go together.
func taken(kind api.Type, err api.Errno) (api.Type, api.Errno) {
	if err != api.OK {
		return api.Type{}, api.ErrType
	}
	return kind, api.OK
}

// field answers what comes of a field; of void and of a sampler it is not the field that is wrong.
func field(of api.Type, name string) (api.Type, api.Errno) {
	if of.Base == api.BaseVoid || of.Base == api.BaseSampler {
		return api.Type{}, api.ErrType
	}
	kind, _, err := kinds.Field(of, name)
	return kind, err
}

// name answers the type of what a NodeName means.
func (w *walker) name(number int) (api.Type, api.Errno) {
	use, kind := w.meaning(w.Tree.Nodes[number].Text)
	if use == api.UseBuiltin || w.kindOf(use) == api.NodeFunc {
		return api.Type{}, api.ErrName
	}
	w.Uses[number] = use
	return kind, api.OK
}

// call answers what comes of a call with arguments of these types.
func (w *walker) call(number int, args []api.Type) (api.Type, api.Errno) {
	name := w.Tree.Nodes[number].Text
	if !parse.Type(name) && !kinds.Builtin(name) {
		return w.callOwn(number, args)
	}
	kind, fn, err := kinds.Call(name, args)
	if err == api.OK {
		w.Fns[number] = fn
	}
	return taken(kind, err)
}

// callOwn answers what comes of a call of one of the shader's own functions.
func (w *walker) callOwn(number int, args []api.Type) (api.Type, api.Errno) {
	name := w.Tree.Nodes[number].Text
	use, kind := w.meaning(name)
	if w.kindOf(use) != api.NodeFunc || name == "main" {
		return api.Type{}, api.ErrName
	}
	kids := w.Tree.Nodes[use].Kids
	if !slices.Equal(w.typesOf(kids[:len(kids)-1]), args) {
		return api.Type{}, api.ErrType
	}
	w.Uses[number] = use
	return kind, api.OK
}

// isConstant tells whether a node that has been walked is a constant expression.
func (w *walker) isConstant(number int) bool {
	n := w.Tree.Nodes[number]
	switch n.Kind {
	case api.NodeInt, api.NodeFloat, api.NodeBool:
		return true
	case api.NodeName:
		use := w.Uses[number]
		return use >= 0 && w.words[use] == "const"
	case api.NodeCall:
		if fn := w.Fns[number]; fn == 0 || fn == api.FnTexture {
			return false
		}
	case api.NodeUnary, api.NodeBinary, api.NodeCond, api.NodeField:
	default:
		return false
	}
	return !slices.ContainsFunc(n.Kids, func(kid int) bool { return !w.isConstant(kid) })
}

// isWritable tells whether a node that has been walked may be written.
func (w *walker) isWritable(number int) bool {
	n := w.Tree.Nodes[number]
	switch n.Kind {
	case api.NodeName:
		return w.keeps(w.Uses[number])
	case api.NodeField:
		_, places, _ := kinds.Field(w.Types[n.Kids[0]], n.Text)
		return w.isWritable(n.Kids[0]) && !hasTwice(places)
	}
	return false
}

// keeps tells whether what a name means takes what is written to it.
func (w *walker) keeps(use int) bool {
	switch use {
	case api.UsePosition, api.UsePointSize, api.UseFragColor:
		return true
	}
	switch w.kindOf(use) {
	case api.NodeParam:
		return true
	case api.NodeVar:
		return w.words[use] == "" || w.words[use] == "varying" && w.Stage == api.StageVertex
	}
	return false
}

// hasTwice tells whether a place stands twice among these.
func hasTwice(places []int) bool {
	for i, place := range places {
		if slices.Contains(places[:i], place) {
			return true
		}
	}
	return false
}
