package check_test

import (
	"fmt"
	"slices"
	"strings"

	"paintbox/api"
	"paintbox/lex"
)

// chance tells numbers that look like chance, and are always the same.
type chance uint64

func (c *chance) below(n int) int {
	*c = *c*6364136223846793005 + 1442695040888963407
	return int(uint64(*c)>>33) % n
}

// of answers one of these.
func (c *chance) of(l ...string) string { return l[c.below(len(l))] }

// lexed answers the tokens of a text.
func lexed(text string) ([]api.Token, api.Spot) { return lex.Lex(text) }

// known is a name that has been given: its type, the word ahead of it (or for, param, func), and what parameters it has.
type known struct {
	name, kind, ahead string
	params            []string
}

// writer writes a shader that is right, but for slips: one in so many choices (none, if that is 0).
type writer struct {
	chance
	stage, slips int
	scopes       [][]known
	lists        map[string]int
	result       string
}

// slip tells whether this choice goes wrong.
func (w *writer) slip() bool { return w.slips > 0 && w.below(w.slips) == 0 }

// yes tells true once out of n times.
func (w *writer) yes(n int) bool { return w.below(n) == 0 }

// fresh answers a name that may be given in the innermost scope.
func (w *writer) fresh() string {
	for {
		name := w.of("a", "b", "c", "d", "e", "f", "g", "h", "x", "xy") + w.of("", "", "1", "_")
		if w.slip() {
			name = w.of("abs", "mix", "gl_a", "gl_FragColor", "main", name)
			return name
		}
		if !slices.ContainsFunc(w.scopes[len(w.scopes)-1], func(k known) bool { return k.name == name }) {
			return name
		}
	}
}

// give gives a name in the innermost scope.
func (w *writer) give(k known) {
	at := len(w.scopes) - 1
	w.scopes[at] = append(w.scopes[at], k)
}

// scoped writes something in a scope of its own.
func (w *writer) scoped(write func() string) string {
	w.scopes = append(w.scopes, nil)
	text := write()
	w.scopes = w.scopes[:len(w.scopes)-1]
	return text
}

// seen answers the names that mean something here, those that are hidden not among.
func (w *writer) seen(may func(known) bool) []known {
	var l []known
	hidden := map[string]bool{}
	for _, scope := range slices.Backward(w.scopes) {
		for _, k := range scope {
			if !hidden[k.name] && may(k) {
				l = append(l, k)
			}
		}
		for _, k := range scope {
			hidden[k.name] = true
		}
	}
	var built []known
	if w.stage == vertex || w.slip() {
		built = append(built, known{"gl_Position", "vec4", "", nil}, known{"gl_PointSize", "float", "", nil})
	}
	if w.stage == fragment || w.slip() {
		built = append(built, known{"gl_FragCoord", "vec4", "read", nil}, known{"gl_FrontFacing", "bool", "read", nil}, known{"gl_PointCoord", "vec2", "read", nil}, known{"gl_FragColor", "vec4", "", nil})
	}
	for _, k := range built {
		if may(k) {
			l = append(l, k)
		}
	}
	return l
}

// kind answers a type's word.
func (w *writer) kind() string {
	if w.slip() {
		return w.of("void", "sampler2D")
	}
	return w.of(append(values(), "float", "float", "vec2", "vec4", "int", "bool")...)
}

func (w *writer) floats() string {
	if w.slip() {
		return w.kind()
	}
	return w.of("float", "vec2", "vec3", "vec4")
}

// shader writes a whole one.
func (w *writer) shader() string {
	w.lists = map[string]int{}
	return w.scoped(func() string {
		text := ""
		for range w.below(6) {
			text += w.outer()
		}
		if !w.slip() {
			kind, params := "void", ""
			if w.slip() {
				kind, params = w.of("int", "void", "sampler2D"), w.of("int a", "")
			}
			w.result = kind
			text += kind + " main(" + params + ")" + w.scoped(func() string { return w.block(3) })
			w.give(known{"main", kind, "func", nil})
		}
		for range w.below(3) {
			text += w.outer()
		}
		return text
	})
}

// outer writes what stands in no function.
func (w *writer) outer() string {
	if w.yes(3) {
		return w.function()
	}
	ahead := w.of("", "const", "uniform", "varying", "attribute")
	if ahead == "attribute" && w.stage == fragment && !w.slip() {
		ahead = "uniform"
	}
	return w.declaration(ahead, true)
}

// function writes a function. Its name is given behind it.
func (w *writer) function() string {
	kind := w.kind()
	if w.yes(3) {
		kind = "void"
	}
	w.result = kind
	name := w.fresh()
	k := known{name, kind, "func", nil}
	text := w.scoped(func() string {
		var l []string
		for range w.below(3) {
			p := known{w.fresh(), w.of(w.kind(), "sampler2D", w.kind()), "param", nil}
			l = append(l, p.kind+" "+p.name)
			k.params = append(k.params, p.kind)
			w.give(p)
		}
		return "(" + strings.Join(l, ",") + ")" + w.block(3)
	})
	w.give(k)
	return kind + " " + name + text
}

// declaration writes a decl of one or more.
func (w *writer) declaration(ahead string, outer bool) string {
	kind := w.kind()
	if ahead == "attribute" || ahead == "varying" {
		kind = w.floats()
	}
	if ahead == "uniform" && w.yes(2) {
		kind = "sampler2D"
	}
	most := map[string]int{"attribute": 8, "varying": 4, "uniform": 32}[ahead]
	var l []string
	for range 1 + w.below(3) {
		if most > 0 && w.lists[ahead] >= most && !w.slip() {
			break
		}
		text := ""
		handed := most > 0
		if valued := !handed && (ahead == "const" || w.yes(2)); valued != w.slip() {
			text = "=" + w.expr(kind, 3, ahead == "const" || outer)
		}
		k := known{w.fresh(), kind, ahead, nil}
		if w.slips > 0 && w.yes(40) && handed {
			for range 2 * most {
				k.name = fmt.Sprintf("n%d", w.lists[ahead])
				w.lists[ahead]++
				l = append(l, k.name)
			}
		}
		w.lists[ahead]++
		w.give(k)
		l = append(l, k.name+text)
	}
	if l == nil {
		return ""
	}
	return ahead + " " + kind + " " + strings.Join(l, ",") + ";"
}

func (w *writer) block(depth int) string {
	text := "{"
	for range w.below(5) {
		text += w.statement(depth - 1)
	}
	return text + "}"
}

// inner writes a statement in a scope of its own.
func (w *writer) inner(depth int) string {
	return w.scoped(func() string { return w.statement(depth) })
}

func (w *writer) statement(depth int) string {
	kind := w.below(12)
	if depth < 1 {
		kind = 3 + w.below(9)
	}
	switch kind {
	case 0:
		return w.scoped(func() string { return w.block(depth) })
	case 1:
		text := "if(" + w.expr("bool", 3, false) + "){" + w.inner(depth-1) + "}"
		if w.yes(2) {
			text += "else " + w.inner(depth-1)
		}
		return text
	case 2:
		return w.loop(depth)
	case 3, 4:
		return w.declaration(w.of("", "", "const"), false)
	case 5:
		if w.result == "void" != w.slip() {
			return "return;"
		}
		return "return " + w.expr(w.result, 3, false) + ";"
	case 6:
		if w.stage == fragment || w.slip() {
			return "discard;"
		}
		return ";"
	case 7, 8:
		return w.expr(w.of(append(values(), "void")...), 4, false) + ";"
	}
	return w.assign(w.of("float", "vec2", "vec3", "vec4", "int", "bool"), 3) + ";"
}

func (w *writer) loop(depth int) string {
	first := w.below(100) - 50
	second := first + w.below(70) - 5
	if w.slips > 0 && w.yes(12) {
		second = first + 65 + w.below(3)
	}
	return w.scoped(func() string {
		name := w.fresh()
		w.give(known{name, "int", "for", nil})
		return fmt.Sprintf("for(int %s=%d;%s<%d;%s++)", name, first, name, second, name) + w.inner(depth-1)
	})
}

// assign writes an assignment to a place of a type, if there is a name for it.
func (w *writer) assign(kind string, depth int) string {
	l := w.seen(func(k known) bool {
		may := k.ahead == "" || k.ahead == "param" || k.ahead == "varying" && w.stage == vertex
		return (k.kind == kind || k.kind == "vec4" && isFloat(kind)) && may || w.slip()
	})
	if len(l) == 0 {
		return w.expr(kind, depth-1, false)
	}
	k := l[w.below(len(l))]
	place := k.name
	if k.kind != kind || kind == "vec4" && w.yes(2) {
		place += "." + map[string]string{"float": "w", "vec2": "gr", "vec3": "xzy", "vec4": "stqp"}[kind]
		if w.slip() {
			place += w.of("x", "xx", ".x", "rr", "y")
		}
	}
	op, value := "=", kind
	if w.yes(3) && !strings.HasPrefix(kind, "b") {
		op = w.of("+=", "-=", "*=", "/=")
	}
	return "(" + place + op + w.expr(value, depth-1, false) + ")"
}

// plain answers the type of one number of a type.
func plain(kind string) string {
	switch kind[0] {
	case 'f', 'v':
		return "float"
	case 'i':
		return "int"
	}
	return "bool"
}

// expr writes an expression of a type; a constant one, if it must be.
func (w *writer) expr(kind string, depth int, constant bool) string {
	if w.slip() {
		kind = w.of(words()...)
	}
	constant = constant && !w.slip()
	if kind == "void" || kind == "sampler2D" {
		return w.named(kind, constant)
	}
	if depth < 1 {
		return w.leaf(kind, constant)
	}
	e := func(kind string) string { return w.expr(kind, depth-1, constant) }
	switch w.below(9) {
	case 0:
		return "(" + e("bool") + "?" + e(kind) + ":" + e(kind) + ")"
	case 1:
		return w.operation(kind, e)
	case 2:
		if kind != "bool" && plain(kind) == "bool" {
			return w.leaf(kind, constant)
		}
		return "(" + map[bool]string{true: "!", false: "-"}[kind == "bool"] + "(" + e(kind) + "))"
	case 3:
		if !isFloat(kind) {
			return kind + "(" + e(kind) + ")"
		}
		return w.builtin(kind, constant, e)
	case 4:
		return w.picked(kind, e)
	case 5:
		if constant {
			return e(kind)
		}
		return w.own(kind, depth)
	case 6:
		if constant || w.yes(2) {
			return kind + "(" + e(w.of(plain(kind), "float", "int", "bool")) + ")"
		}
		return w.assign(kind, depth-1)
	}
	return w.leaf(kind, constant)
}

// operation writes an operator between two.
func (w *writer) operation(kind string, e func(string) string) string {
	if plain(kind) != "bool" {
		a, b := kind, kind
		if w.yes(3) {
			a = plain(kind)
		} else if w.yes(3) {
			b = plain(kind)
		}
		return "(" + e(a) + w.of("+", "-", "*", "/") + e(b) + ")"
	}
	if kind != "bool" {
		return e(kind)
	}
	switch w.below(3) {
	case 0:
		return "(" + e("bool") + w.of("&&", "||") + e("bool") + ")"
	case 1:
		side := w.of("float", "int")
		return "(" + e(side) + w.of("<", ">", "<=", ">=") + e(side) + ")"
	}
	side := w.of(values()...)
	return "(" + e(side) + w.of("==", "!=") + e(side) + ")"
}

// builtin writes a call of a built-in function that gives floats.
func (w *writer) builtin(kind string, constant bool, e func(string) string) string {
	if kind == "float" && w.yes(3) {
		side := w.of("float", "vec2", "vec3")
		return w.of("length("+e(side)+")", "dot("+e(side)+","+e(side)+")")
	}
	if s := w.named("sampler2D", constant); kind == "vec4" && s != "" && w.yes(3) {
		return "texture2D(" + s + "," + e("vec2") + ")"
	}
	switch w.below(4) {
	case 0:
		return w.of("abs", "sign", "floor", "sin", "normalize", "exp2") + "(" + e(kind) + ")"
	case 1:
		return w.of("min", "max", "mod") + "(" + e(kind) + "," + e(w.of(kind, "float")) + ")"
	case 2:
		return "mix(" + e(kind) + "," + e(kind) + "," + e(w.of(kind, "float")) + ")"
	}
	if kind == "vec3" {
		return "cross(" + e(kind) + "," + e(kind) + ")"
	}
	return "step(" + e(w.of(kind, "float")) + "," + e(kind) + ")"
}

// picked writes a field of a greater one.
func (w *writer) picked(kind string, e func(string) string) string {
	size := map[byte]int{'2': 2, '3': 3, '4': 4}[kind[len(kind)-1]]
	whole := map[string]string{"float": "vec4", "int": "ivec4", "bool": "bvec4"}[plain(kind)]
	row, name := w.of("xyzw", "rgba", "stpq"), ""
	for range max(size, 1) {
		if w.slip() {
			name += w.of("x", "r", "q", "k")
		}
		at := w.below(4)
		name += row[at : at+1]
	}
	return e(whole) + "." + name
}

// own writes a call of one of the shader's functions, if there is one for it.
func (w *writer) own(kind string, depth int) string {
	l := w.seen(func(k known) bool { return k.ahead == "func" && k.kind == kind && k.name != "main" || w.slip() })
	if len(l) == 0 {
		return w.leaf(kind, false)
	}
	k := l[w.below(len(l))]
	var args []string
	for _, p := range k.params {
		args = append(args, w.expr(p, depth-1, false))
		if p == "sampler2D" && args[len(args)-1] == "" {
			return w.leaf(kind, false)
		}
	}
	if w.slip() {
		args = append(args, "1")
	}
	return k.name + "(" + strings.Join(args, ",") + ")"
}

// named writes a name or a call of no arguments, of a type of which there are no values to write.
func (w *writer) named(kind string, constant bool) string {
	l := w.seen(func(k known) bool {
		return k.kind == kind && (kind == "sampler2D") == (k.ahead != "func") && len(k.params) == 0 && k.name != "main"
	})
	if len(l) == 0 || constant {
		return map[bool]string{true: "", false: "1"}[kind == "sampler2D"]
	}
	k := l[w.below(len(l))]
	if kind == "void" {
		return k.name + "()"
	}
	return k.name
}

// leaf writes a name, or a number.
func (w *writer) leaf(kind string, constant bool) string {
	l := w.seen(func(k known) bool {
		return k.kind == kind && k.ahead != "func" && (!constant || k.ahead == "const") || w.slip()
	})
	if len(l) > 0 && w.below(4) > 0 {
		return l[w.below(len(l))].name
	}
	if w.slip() {
		return w.of("a", "b", "c1", "h_", "main", "abs", "gl_PointSize", "gl_FrontFacing")
	}
	switch kind {
	case "float":
		return w.of("1.0", "0.5", "2.25")
	case "int":
		return w.of("1", "0", "7")
	case "bool":
		return w.of("true", "false")
	}
	return kind + "(" + w.of("1.0", "2", "true") + ")"
}
