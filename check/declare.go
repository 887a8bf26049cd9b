package check

import (
	"paintbox/api"
)

// declaration walks a NodeDecl.
func (w *walker) declaration(number int) error {
	decl := w.Tree.Nodes[number]
	return each(decl.Kids, func(kid int) error { return w.variable(kid, decl) })
}

// variable walks a NodeVar of this NodeDecl. Its name is given behind its value, which means by it what it meant ahead.
func (w *walker) variable(number int, decl api.Node) error {
	n := w.Tree.Nodes[number]
	w.words[number], w.Types[number] = decl.Text, typeOf(decl.Type)
	if err := w.declares(number); err != api.OK {
		return faultAt(err, n.At)
	}
	if err := each(n.Kids, w.expr); err != nil {
		return err
	}
	if err := w.holds(number); err != api.OK {
		return faultAt(err, n.At)
	}
	if err := w.give(number); err != api.OK {
		return faultAt(err, n.At)
	}
	return faultAt(w.enlist(number), n.At)
}

// declares answers what is wrong with a NodeVar's type, its word, and whether it has a value.
func (w *walker) declares(number int) api.Errno {
	word, base := w.words[number], w.Types[number].Base
	handed := word == "attribute" || word == "uniform" || word == "varying"
	valued := len(w.Tree.Nodes[number].Kids) == 1
	switch {
	case base == api.BaseVoid, base == api.BaseSampler && word != "uniform":
		return api.ErrType
	case word == "attribute" && w.Stage != api.StageVertex:
		return api.ErrPlace
	case handed && word != "uniform" && base != api.BaseFloat:
		return api.ErrType
	case handed && valued, word == "const" && !valued:
		return api.ErrValue
	}
	return api.OK
}

// holds answers what is wrong with a NodeVar's value, if it has one.
func (w *walker) holds(number int) api.Errno {
	fixed := w.words[number] == "const" || len(w.scopes) == 1
	for _, value := range w.Tree.Nodes[number].Kids {
		if w.Types[value] != w.Types[number] {
			return api.ErrType
		}
		if fixed && !w.isConstant(value) {
			return api.ErrValue
		}
	}
	return api.OK
}

// enlist puts a NodeVar into the list of those that have its word, if there is one.
func (w *walker) enlist(number int) api.Errno {
	switch w.words[number] {
	case "attribute":
		return put(&w.Attribs, number, api.MaxAttribs)
	case "uniform":
		return put(&w.Uniforms, number, api.MaxUniforms)
	case "varying":
		return put(&w.Varyings, number, api.MaxVaryings)
	}
	return api.OK
}

// put puts a number behind a list that has so many at most.
func put(list *[]int, number, most int) api.Errno {
	if len(*list) == most {
		return api.ErrLong
	}
	*list = append(*list, number)
	return api.OK
}
