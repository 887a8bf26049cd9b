package gen_test

import (
	"fmt"
	"slices"
	"strings"

	"paintbox/api"
)

// values answers the words of all types of which there are values.
func values() []string {
	return strings.Fields("float vec2 vec3 vec4 int ivec2 ivec3 ivec4 bool bvec2 bvec3 bvec4")
}

// baseOf answers the word of one number of a type.
func baseOf(kind string) string {
	switch kind[0] {
	case 'f', 'v':
		return "float"
	case 'i':
		return "int"
	case 'b':
		return "bool"
	}
	return kind
}

// sizeOf answers how many numbers a type has.
func sizeOf(kind string) int {
	if n := int(kind[len(kind)-1] - '0'); n >= 2 && n <= 4 {
		return n
	}
	return 1
}

// known is a name that has been given: its type, the word ahead of it (or for, param, func), and what parameters it has.
type known struct {
	name, kind, ahead string
	params            []string
}

// writer writes shaders that Check takes, by chance.
type writer struct {
	chance
	stage  int
	scopes [][]known
	result string
}

// yes tells true once out of n times.
func (w *writer) yes(n int) bool { return w.below(n) == 0 }

// fresh answers a name that may be given in the innermost scope; names of outer ones come again.
func (w *writer) fresh() string {
	for {
		name := w.of("a", "b", "c", "d", "e", "f", "g", "h") + w.of("", "", "1", "_")
		if len(w.scopes) == 0 || !slices.ContainsFunc(w.scopes[len(w.scopes)-1], func(k known) bool { return k.name == name }) {
			return name
		}
	}
}

// give gives a name in the innermost scope.
func (w *writer) give(k known) {
	at := len(w.scopes) - 1
	w.scopes[at] = append(w.scopes[at], k)
}

// scoped writes something in a scope of its own.
func (w *writer) scoped(write func() string) string {
	w.scopes = append(w.scopes, nil)
	text := write()
	w.scopes = w.scopes[:len(w.scopes)-1]
	return text
}

// seen answers the names that mean something here, those that are hidden not among.
func (w *writer) seen(may func(known) bool) []known {
	var l []known
	hidden := map[string]bool{}
	for _, scope := range slices.Backward(w.scopes) {
		for _, k := range scope {
			if !hidden[k.name] && may(k) {
				l = append(l, k)
			}
		}
		for _, k := range scope {
			hidden[k.name] = true
		}
	}
	built := []known{{"gl_Position", "vec4", "", nil}, {"gl_PointSize", "float", "", nil}}
	if w.stage == fragment {
		built = []known{{"gl_FragCoord", "vec4", "read", nil}, {"gl_FrontFacing", "bool", "read", nil}, {"gl_PointCoord", "vec2", "read", nil}, {"gl_FragColor", "vec4", "", nil}}
	}
	for _, k := range built {
		if may(k) {
			l = append(l, k)
		}
	}
	return l
}

// kind answers a type's word.
func (w *writer) kind() string {
	return w.of(append(values(), "float", "float", "vec2", "vec4", "int", "int", "bool")...)
}

// shader writes a whole one. At main's end it tells what variables hold.
func (w *writer) shader() string {
	return w.scoped(func() string {
		text := ""
		for range 1 + w.below(5) {
			text += w.outer()
		}
		for range w.below(4) {
			text += w.function()
		}
		w.result = "void"
		text += "void main()" + w.scoped(func() string {
			body := "{"
			for range 2 + w.below(12) {
				body += w.statement(3)
			}
			return body + w.tell() + "}"
		})
		if w.yes(4) {
			text += w.outer()
		}
		return text
	})
}

// outer writes a declaration of the whole shader.
func (w *writer) outer() string {
	ahead := w.of("", "", "const", "uniform", "uniform", "varying", "attribute")
	if ahead == "attribute" && w.stage == fragment {
		ahead = "uniform"
	}
	// One more than MaxVaryings or MaxAttribs would be refused.
	if n := len(w.seen(func(k known) bool { return k.ahead == ahead })); n >= 3 && ahead == "varying" || n >= 7 && ahead == "attribute" {
		ahead = ""
	}
	kind := w.kind()
	switch {
	case ahead == "attribute" || ahead == "varying":
		kind = w.of("float", "vec2", "vec3", "vec4")
	case ahead == "uniform" && w.yes(3):
		kind = "sampler2D"
	}
	value := ""
	if ahead == "const" || ahead == "" && w.yes(2) {
		value = "=" + w.constant(kind, 3)
	}
	k := known{w.fresh(), kind, ahead, nil}
	w.give(k)
	return ahead + " " + kind + " " + k.name + value + ";"
}

// constant writes a constant expression of a type.
func (w *writer) constant(kind string, depth int) string { return w.expr(kind, depth, true) }

// function writes a function. Its name is given behind it.
func (w *writer) function() string {
	k := known{w.fresh(), w.of(w.kind(), "void"), "func", nil}
	w.result = k.kind
	text := w.scoped(func() string {
		var l []string
		for range w.below(4) {
			p := known{w.fresh(), w.of(w.kind(), w.kind(), w.kind(), "sampler2D"), "param", nil}
			l = append(l, p.kind+" "+p.name)
			k.params = append(k.params, p.kind)
			w.give(p)
		}
		body := "{"
		for range 1 + w.below(4) {
			body += w.statement(2)
		}
		if k.kind != "void" && !w.yes(5) {
			body += "return " + w.expr(k.kind, 3, false) + ";"
		}
		return "(" + strings.Join(l, ",") + ")" + body + "}"
	})
	w.give(k)
	return k.kind + " " + k.name + text
}

// local writes a declaration of one or two within a function.
func (w *writer) local() string {
	ahead, kind := w.of("", "", "", "const"), w.kind()
	var l []string
	for range 1 + w.below(2) {
		value := ""
		if ahead == "const" || !w.yes(4) {
			value = "=" + w.expr(kind, 3, ahead == "const")
		}
		k := known{w.fresh(), kind, ahead, nil}
		w.give(k)
		l = append(l, k.name+value)
	}
	return ahead + " " + kind + " " + strings.Join(l, ",") + ";"
}

// inner writes a statement in a scope of its own.
func (w *writer) inner(depth int) string {
	return w.scoped(func() string { return w.statement(depth) })
}

func (w *writer) block(depth int) string {
	return w.scoped(func() string {
		text := "{"
		for range w.below(4) {
			text += w.statement(depth - 1)
		}
		return text + "}"
	})
}

func (w *writer) statement(depth int) string {
	kind := w.below(16)
	if depth < 1 {
		kind = 5 + w.below(11)
	}
	switch kind {
	case 0:
		return w.block(depth)
	case 1, 2:
		text := "if(" + w.expr("bool", 3, false) + ")" + w.block(depth-1)
		if w.yes(2) {
			text += "else " + w.inner(depth-1)
		}
		return text
	case 3, 4:
		return w.loop(depth)
	case 5, 6, 7:
		return w.local()
	case 8:
		switch {
		case w.below(3) > 0:
			return ";"
		case w.result == "void":
			return "return;"
		case w.yes(6):
			return "return " + w.expr(w.result, 2, false) + ";"
		}
		return "if(" + w.expr("bool", 2, false) + ")return " + w.expr(w.result, 2, false) + ";"
	case 9:
		if w.stage == fragment && w.yes(3) {
			return "if(" + w.expr("bool", 2, false) + ")discard;"
		}
		return ";"
	case 10:
		return w.own("void", 4) + ";"
	}
	return w.assign(w.of(values()...), 4) + ";"
}

func (w *writer) loop(depth int) string {
	first := w.below(100) - 50
	second := first + w.below(7) - 1
	if w.yes(30) {
		second = first + 50 + w.below(15)
	}
	return w.scoped(func() string {
		name := w.fresh()
		w.give(known{name, "int", "for", nil})
		return fmt.Sprintf("for(int %s=%d;%s<%d;%s++)", name, first, name, second, name) + w.inner(depth-1)
	})
}

// assign writes an assignment to a place of a type, if there is a variable that has one.
func (w *writer) assign(kind string, depth int) string {
	l := w.seen(func(k known) bool {
		may := k.ahead == "" || k.ahead == "param" || k.ahead == "varying" && w.stage == vertex
		return may && k.kind != "sampler2D" && baseOf(k.kind) == baseOf(kind) && sizeOf(k.kind) >= sizeOf(kind)
	})
	if len(l) == 0 {
		return w.expr(kind, depth-1, false)
	}
	k := l[w.below(len(l))]
	place := k.name
	if size := sizeOf(k.kind); size > 1 && (k.kind != kind || w.yes(2)) {
		if w.yes(2) {
			name := w.field(size, size, true)
			place += "." + name
		}
		place += "." + w.field(size, sizeOf(kind), true)
	}
	op, value := "=", kind
	if w.yes(2) && baseOf(kind) != "bool" {
		op = w.of("+=", "-=", "*=", "/=")
		value = w.of(kind, baseOf(kind))
	}
	return "(" + place + op + w.expr(value, depth-1, false) + ")"
}

// field writes a field's name of n letters, of a type of that size; no place twice, if it is to be written.
func (w *writer) field(size, n int, once bool) string {
	row, name := w.of("xyzw", "rgba", "stpq")[:size], ""
	for len(name) < n {
		at := w.below(size)
		if letter := row[at : at+1]; !once || !strings.Contains(name, letter) {
			name += letter
		}
	}
	return name
}

// expr writes an expression of a type; a constant one, if it must be.
func (w *writer) expr(kind string, depth int, constant bool) string {
	if kind == "sampler2D" {
		return w.sampler()
	}
	if depth < 1 {
		return w.leaf(kind, constant)
	}
	e := func(kind string) string { return w.expr(kind, depth-1, constant) }
	switch w.below(10) {
	case 0:
		return "(" + e("bool") + "?" + e(kind) + ":" + e(kind) + ")"
	case 1:
		return w.operation(kind, e)
	case 2:
		switch {
		case kind == "bool":
			return "(!" + e(kind) + ")"
		case baseOf(kind) == "bool":
			return w.make(kind, e)
		}
		return "(-" + e(kind) + ")"
	case 3:
		if baseOf(kind) == "float" {
			return w.builtin(kind, constant, e)
		}
		return w.make(kind, e)
	case 4:
		size := 2 + w.below(3)
		return e(vectorOf(baseOf(kind), size)) + "." + w.field(size, sizeOf(kind), false)
	case 5, 6:
		if constant {
			return e(kind)
		}
		return w.own(kind, depth)
	case 7:
		return w.make(kind, e)
	case 8:
		if constant {
			return w.operation(kind, e)
		}
		return w.assign(kind, depth-1)
	}
	return w.leaf(kind, constant)
}

// vectorOf answers the word of a type.
func vectorOf(base string, size int) string {
	if size == 1 {
		return base
	}
	return map[string]string{"float": "vec", "int": "ivec", "bool": "bvec"}[base] + fmt.Sprint(size)
}

// operation writes an operator between two.
func (w *writer) operation(kind string, e func(string) string) string {
	base := baseOf(kind)
	switch {
	case base != "bool":
		a, b := kind, kind
		if w.yes(3) {
			a = base
		} else if w.yes(3) {
			b = base
		}
		return "(" + e(a) + w.of("+", "-", "*", "/") + e(b) + ")"
	case kind != "bool":
		return e(kind)
	}
	switch w.below(3) {
	case 0:
		return "(" + e("bool") + w.of("&&", "||") + e("bool") + ")"
	case 1:
		side := w.of("float", "int")
		return "(" + e(side) + w.of("<", ">", "<=", ">=") + e(side) + ")"
	}
	side := w.of(values()...)
	return "(" + e(side) + w.of("==", "!=") + e(side) + ")"
}

// make writes a call of a type's word: of one plain argument, of one with numbers enough, or of several.
func (w *writer) make(kind string, e func(string) string) string {
	base := func() string { return w.of("float", "int", "bool") }
	size := sizeOf(kind)
	switch w.below(3) {
	case 0:
		return kind + "(" + e(base()) + ")"
	case 1:
		return kind + "(" + e(vectorOf(base(), size+w.below(5-size))) + ")"
	}
	var l []string
	sum := 0
	for sum < size {
		more := 1 + w.below(4)
		if size > 1 && len(l) == 0 {
			more = 1 + w.below(size-1)
		}
		l = append(l, e(vectorOf(base(), more)))
		sum += more
	}
	return kind + "(" + strings.Join(l, ",") + ")"
}

// builtin writes a call of a built-in function that gives floats.
func (w *writer) builtin(kind string, constant bool, e func(string) string) string {
	if kind == "float" && w.yes(3) {
		side := w.of("float", "vec2", "vec3", "vec4")
		return w.of("length("+e(side)+")", "dot("+e(side)+","+e(side)+")")
	}
	if s := w.sampler(); kind == "vec4" && s != "" && !constant && w.yes(2) {
		return "texture2D(" + s + "," + e("vec2") + ")"
	}
	if kind == "vec3" && w.yes(4) {
		return "cross(" + e(kind) + "," + e(kind) + ")"
	}
	float := w.of(kind, "float")
	switch w.below(7) {
	case 0, 1:
		return w.of("abs", "sign", "floor", "fract", "sqrt", "inversesqrt", "exp2", "log2", "sin", "cos", "normalize") + "(" + e(kind) + ")"
	case 2:
		return w.of("min", "max", "mod") + "(" + e(kind) + "," + e(float) + ")"
	case 3:
		return "pow(" + e(kind) + "," + e(kind) + ")"
	case 4:
		return "step(" + e(float) + "," + e(kind) + ")"
	case 5:
		return "mix(" + e(kind) + "," + e(kind) + "," + e(float) + ")"
	}
	return "clamp(" + e(kind) + "," + e(float) + "," + e(float) + ")"
}

// own writes a call of one of the shader's functions, if there is one for it.
func (w *writer) own(kind string, depth int) string {
	l := w.seen(func(k known) bool {
		return k.ahead == "func" && k.kind == kind && (w.sampler() != "" || !slices.Contains(k.params, "sampler2D"))
	})
	switch {
	case len(l) > 0:
	case kind == "void":
		return ""
	default:
		return w.leaf(kind, false)
	}
	k := l[w.below(len(l))]
	var args []string
	for _, p := range k.params {
		args = append(args, w.expr(p, depth-1, false))
	}
	return k.name + "(" + strings.Join(args, ",") + ")"
}

// sampler writes the name of a sampler, if there is one.
func (w *writer) sampler() string {
	l := w.seen(func(k known) bool { return k.kind == "sampler2D" })
	if len(l) == 0 {
		return ""
	}
	return l[w.below(len(l))].name
}

// leaf writes a name, or a number.
func (w *writer) leaf(kind string, constant bool) string {
	l := w.seen(func(k known) bool {
		return k.kind == kind && k.ahead != "func" && (!constant || k.ahead == "const")
	})
	if len(l) > 0 && w.below(4) > 0 {
		return l[w.below(len(l))].name
	}
	switch kind {
	case "float":
		return w.of("1.0", "0.5", "2.25", "0.0", "3.0", "100.75", "32767.0", "0.001")
	case "int":
		return w.of("1", "0", "7", "2", "3", "32767", "100")
	case "bool":
		return w.of("true", "false")
	}
	return kind + "(" + w.of("1.0", "2", "true", "0.5", "0.0") + ")"
}

// tell writes what lays some of what variables hold into what comes of the run.
func (w *writer) tell() string {
	l := w.seen(func(k known) bool { return k.ahead != "func" && k.kind != "sampler2D" && k.ahead != "read" })
	number := func() string {
		k := l[w.below(len(l))]
		one := k.name
		if size := sizeOf(k.kind); size > 1 {
			one += "." + w.field(size, 1, false)
		}
		if baseOf(k.kind) == "int" && w.yes(2) {
			one += "/512"
		}
		return "float(" + one + ")"
	}
	four := "vec4(" + number() + "," + number() + "," + number() + "," + number() + ")"
	if w.stage == fragment {
		return "gl_FragColor=" + four + ";"
	}
	return "gl_Position=" + four + ";"
}

// pictures answers images: one that is complete, one that is not, one that may not be, and one of other modes.
func pictures() []api.Image {
	return []api.Image{
		{Format: api.L8, Levels: []api.Level{{W: 2, H: 2, Bytes: []byte{0, 255, 100, 30}}}, WrapS: api.Repeat, WrapT: api.Mirror, Min: api.Nearest, Mag: api.Linear},
		{Format: api.L8, Levels: []api.Level{{W: 2, H: 2, Bytes: []byte{0, 255, 100, 30}}}, WrapS: api.Repeat, WrapT: api.Mirror, Min: api.LinearMip, Mag: api.Linear},
		{Format: api.L8, Levels: []api.Level{{W: 2, H: 2, Bytes: []byte{0, 255, 100}}}, WrapS: api.Repeat, WrapT: api.Mirror, Min: api.Nearest, Mag: api.Linear},
		{Format: api.RGBA8, Levels: []api.Level{{W: 1, H: 2, Bytes: []byte{1, 2, 3, 4, 50, 60, 70, 80}}}, WrapS: api.Clamp, WrapT: api.Clamp, Min: api.Nearest, Mag: api.Nearest},
	}
}

// env answers surroundings that fit a shader. Samplers say numbers from -1 on.
func (w *writer) env(c api.Checked) api.Env {
	list := func(variables []int) []api.Vec {
		var l []api.Vec
		for _, variable := range variables {
			v := w.vector()
			if c.Types[variable].Base == api.BaseSampler {
				v[0] = api.Fix(w.below(6) - 1)
			}
			l = append(l, v)
		}
		return l
	}
	e := api.Env{Uniforms: list(c.Uniforms), Coord: w.vector(), Front: w.yes(2), Point: w.vector(), Images: pictures()[:w.below(5)]}
	if w.stage == vertex {
		e.Attribs = list(c.Attribs)
	} else {
		e.Varyings = list(c.Varyings)
	}
	return e
}
