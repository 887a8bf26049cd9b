package check

import (
	"slices"

	"paintbox/api"
	"paintbox/fix"
	"paintbox/parse"
)

// walker is a shader on its way through the walk: what is known of it so far, the scopes that are open (the innermost one last), of each NodeVar the word ahead of its type, and the type of the function that is walked.
type walker struct {
	api.Checked
	scopes []map[string]int
	words  []string
	result api.Type
}

// walk goes through a shader; what is wrong is an error that spotOf tells.
func walk(t api.Tree, stage int) (*walker, error) {
	if stage != api.StageVertex && stage != api.StageFragment {
		return nil, faultAt(api.ErrArg, 0)
	}
	if err := parse.Check(t); err != api.OK {
		return nil, faultAt(err, 0)
	}
	w := begin(t, stage)
	return w, w.scoped(w.shader)
}

// begin answers a walker that has walked nothing yet. It has a tree of its own, for that is told in the end.
func begin(t api.Tree, stage int) *walker {
	n := len(t.Nodes)
	c := api.Checked{Tree: copyTree(t), Stage: stage, Types: make([]api.Type, n), Uses: slices.Repeat([]int{api.UseBuiltin}, n), Fns: make([]int, n)}
	return &walker{Checked: c, words: make([]string, n)}
}

// copyTree answers a tree that shares nothing with this one.
func copyTree(t api.Tree) api.Tree {
	nodes := slices.Clone(t.Nodes)
	for i := range nodes {
		nodes[i].Kids = slices.Clone(nodes[i].Kids)
	}
	return api.Tree{Nodes: nodes}
}

// each walks nodes in order, up to the first that is wrong.
func each(numbers []int, step func(int) error) error {
	for _, number := range numbers {
		if err := step(number); err != nil {
			return err
		}
	}
	return nil
}

// shader walks all of it, in the scope of the whole shader.
func (w *walker) shader() error {
	if err := each(w.Tree.Nodes[0].Kids, w.outer); err != nil {
		return err
	}
	use, _ := w.meaning("main")
	if w.kindOf(use) != api.NodeFunc {
		return faultAt(api.ErrMain, 0)
	}
	w.Main = use
	return nil
}

// outer walks what stands in no function.
func (w *walker) outer(number int) error {
	if w.Tree.Nodes[number].Kind == api.NodeFunc {
		return w.function(number)
	}
	return w.declaration(number)
}

// function walks a function. Its name is given behind its statements, so that none of them means it.
func (w *walker) function(number int) error {
	n := w.Tree.Nodes[number]
	w.Types[number] = typeOf(n.Type)
	w.result = w.Types[number]
	last := len(n.Kids) - 1
	if err := functionMay(n, w.result); err != api.OK {
		return faultAt(err, n.At)
	}
	err := w.scoped(func() error {
		if err := each(n.Kids[:last], w.parameter); err != nil {
			return err
		}
		return each(w.Tree.Nodes[n.Kids[last]].Kids, w.statement)
	})
	if err != nil {
		return err
	}
	return faultAt(w.give(number), n.At)
}

// functionMay answers what is wrong with a function of this type, whatever stands in it.
func functionMay(n api.Node, kind api.Type) api.Errno {
	isMain, plain := n.Text == "main", kind.Base == api.BaseVoid && len(n.Kids) == 1
	switch {
	case kind.Base == api.BaseSampler:
		return api.ErrType
	case isMain && !plain:
		return api.ErrMain
	}
	return api.OK
}

// parameter walks a parameter.
func (w *walker) parameter(number int) error {
	n := w.Tree.Nodes[number]
	w.Types[number] = typeOf(n.Type)
	if w.Types[number].Base == api.BaseVoid {
		return faultAt(api.ErrType, n.At)
	}
	return faultAt(w.give(number), n.At)
}

// statement walks a statement.
func (w *walker) statement(number int) error {
	n := w.Tree.Nodes[number]
	switch n.Kind {
	case api.NodeDecl:
		return w.declaration(number)
	case api.NodeBlock:
		return w.scoped(func() error { return each(n.Kids, w.statement) })
	case api.NodeIf:
		return w.choice(n)
	case api.NodeFor:
		return w.scoped(func() error { return w.loop(number) })
	case api.NodeReturn:
		return w.ending(n)
	case api.NodeExpr:
		return w.expr(n.Kids[0])
	case api.NodeDiscard:
		if w.Stage != api.StageFragment {
			return faultAt(api.ErrPlace, n.At)
		}
	}
	return nil
}

// inner walks a statement of an if or of a for, in a scope of its own.
func (w *walker) inner(number int) error {
	return w.scoped(func() error { return w.statement(number) })
}

// choice walks an if.
func (w *walker) choice(n api.Node) error {
	asked := n.Kids[0]
	if err := w.expr(asked); err != nil {
		return err
	}
	if w.Types[asked] != typeOf("bool") {
		return faultAt(api.ErrType, n.At)
	}
	return each(n.Kids[1:], w.inner)
}

// loop walks a for, in its scope.
func (w *walker) loop(number int) error {
	n := w.Tree.Nodes[number]
	first, second, statement := n.Kids[0], n.Kids[1], n.Kids[2]
	for _, whole := range []int{number, first, second} {
		w.Types[whole] = typeOf("int")
	}
	if fix.Int(w.Tree.Nodes[second].Num)-fix.Int(w.Tree.Nodes[first].Num) > api.MaxLoop {
		return faultAt(api.ErrLoop, n.At)
	}
	if err := w.give(number); err != api.OK {
		return faultAt(err, n.At)
	}
	return w.inner(statement)
}

// ending walks a return. What a void function calls may be void too, but is a value that it must not have.
func (w *walker) ending(n api.Node) error {
	if err := each(n.Kids, w.expr); err != nil {
		return err
	}
	void := w.result.Base == api.BaseVoid
	valued := len(n.Kids) == 1
	if void == valued || valued && w.Types[n.Kids[0]] != w.result {
		return faultAt(api.ErrType, n.At)
	}
	return nil
}
