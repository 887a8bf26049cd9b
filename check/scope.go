package check

import (
	"slices"
	"strings"

	"paintbox/api"
	"paintbox/kinds"
)

// scoped does something in a scope of its own.
func (w *walker) scoped(do func() error) error {
	w.scopes = append(w.scopes, map[string]int{})
	defer func() { w.scopes = w.scopes[:len(w.scopes)-1] }()
	return do()
}

// give gives a node its name, in the innermost scope.
func (w *walker) give(number int) api.Errno {
	name := w.Tree.Nodes[number].Text
	scope := w.scopes[len(w.scopes)-1]
	if _, given := scope[name]; given || kinds.Builtin(name) || strings.HasPrefix(name, "gl_") {
		return api.ErrName
	}
	scope[name] = number
	return api.OK
}

// meaning answers what a name means, as Uses tells it, and its type; UseBuiltin, if it means nothing.
func (w *walker) meaning(name string) (int, api.Type) {
	for _, scope := range slices.Backward(w.scopes) {
		if number, given := scope[name]; given {
			return number, w.Types[number]
		}
	}
	if use, kind, is := Builtin(name, w.Stage); is {
		return use, kind
	}
	return api.UseBuiltin, api.Type{}
}

// kindOf answers the kind of the node that a use is; 0, if it is none.
func (w *walker) kindOf(use int) int {
	if use < 0 {
		return 0
	}
	return w.Tree.Nodes[use].Kind
}
