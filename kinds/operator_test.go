package kinds_test

import (
	"strings"
	"testing"

	"paintbox/api"
	"paintbox/kinds"
)

// What operators take, and what comes: both sides, and that, line by line.
const (
	sums = `float float float
vec2 vec2 vec2
vec3 vec3 vec3
vec4 vec4 vec4
float vec2 vec2
float vec3 vec3
float vec4 vec4
vec2 float vec2
vec3 float vec3
vec4 float vec4
int int int
ivec2 ivec2 ivec2
ivec3 ivec3 ivec3
ivec4 ivec4 ivec4
int ivec2 ivec2
int ivec3 ivec3
int ivec4 ivec4
ivec2 int ivec2
ivec3 int ivec3
ivec4 int ivec4`
	orders = `float float bool
int int bool`
	twice = `float float
vec2 vec2
vec3 vec3
vec4 vec4
int int
ivec2 ivec2
ivec3 ivec3
ivec4 ivec4
bool bool
bvec2 bvec2
bvec3 bvec3
bvec4 bvec4`
	truths  = `bool bool bool`
	changes = `float float float
vec2 vec2 vec2
vec3 vec3 vec3
vec4 vec4 vec4
vec2 float vec2
vec3 float vec3
vec4 float vec4
int int int
ivec2 ivec2 ivec2
ivec3 ivec3 ivec3
ivec4 ivec4 ivec4
ivec2 int ivec2
ivec3 int ivec3
ivec4 int ivec4`
)

// behind answers lines with one word more, which the first word of each line tells.
func behind(lines string, last func(first string) string) string {
	var out []string
	for _, l := range strings.Split(lines, "\n") {
		out = append(out, l+" "+last(strings.Fields(l)[0]))
	}
	return strings.Join(out, "\n")
}

// always answers the same word.
func always(word string) func(string) string {
	return func(string) string { return word }
}

// itself answers the word that it is handed.
func itself(word string) string {
	return word
}

// taken answers lines as a map: what stands ahead of the last word, and the last word's type.
func taken(lines string) map[string]api.Type {
	m := map[string]api.Type{}
	for _, l := range strings.Split(lines, "\n") {
		at := strings.LastIndex(l, " ")
		m[l[:at]] = of(l[at+1:])
	}
	return m
}

// binaries are Binary's operators, and what each takes.
func binaries() map[string]map[string]api.Type {
	m := map[string]map[string]api.Type{}
	for _, op := range []string{"+", "-", "*", "/"} {
		m[op] = taken(sums)
	}
	for _, op := range []string{"<", ">", "<=", ">="} {
		m[op] = taken(orders)
	}
	for _, op := range []string{"==", "!="} {
		m[op] = taken(behind(twice, always("bool")))
	}
	for _, op := range []string{"&&", "||"} {
		m[op] = taken(truths)
	}
	return m
}

// assigns are Assign's operators, and what each takes.
func assigns() map[string]map[string]api.Type {
	m := map[string]map[string]api.Type{"=": taken(behind(twice, itself))}
	for _, op := range []string{"+=", "-=", "*=", "/="} {
		m[op] = taken(changes)
	}
	return m
}

// unaries are Unary's operators, and what each takes.
func unaries() map[string]map[string]api.Type {
	numbers := "float float\nvec2 vec2\nvec3 vec3\nvec4 vec4\nint int\nivec2 ivec2\nivec3 ivec3\nivec4 ivec4"
	return map[string]map[string]api.Type{"-": taken(numbers), "!": taken("bool bool")}
}

// signs are texts that are operators, and others that are near them.
func signs() []string {
	l := []string{
		"", " ", "%", "^", "~", "&", "|", "&&&", "|||", "&|", "^^", "<<", ">>", "<>", "=<", "=>", "><", "===", "!==", "!!", "++", "--", "+-", "-+", "**", "//", "%=", "&=", "|=", "^=", "<<=", ">>=", "&&=", "||=", "=+", "=-",
		"?", ":", "?:", "? :", ".", ",", ";", "(", ")", "()", "[]", "and", "or", "not", "plus", "0", "a", "\x00", "\xff", "\u2212", "\u00d7", "\u2264", "\uff0b", strings.Repeat("+", 1000),
	}
	for _, m := range []map[string]map[string]api.Type{binaries(), assigns(), unaries()} {
		for op := range m {
			l = append(l, op, " "+op, op+" ", op+"\x00", op+op+op)
		}
	}
	return l
}

// pairs answers every two of the types.
func pairs(l []api.Type) [][2]api.Type {
	var out [][2]api.Type
	for _, a := range l {
		for _, b := range l {
			out = append(out, [2]api.Type{a, b})
		}
	}
	return out
}

// both tries an operation of two types: each text as an operator, with every two types that may be, and with those that may not.
func both(t *testing.T, what string, do func(string, api.Type, api.Type) (api.Type, api.Errno), ops map[string]map[string]api.Type) {
	for _, op := range signs() {
		rows, isOp := ops[op]
		for _, p := range pairs(all()) {
			got, err := do(op, p[0], p[1])
			want, ok := rows[line(p[0], p[1])]
			switch {
			case !isOp:
				told(t, what+" "+op, got, err, api.Type{}, api.ErrNone)
			case !ok:
				told(t, what+" "+op+" of "+line(p[0], p[1]), got, err, api.Type{}, api.ErrType)
			default:
				told(t, what+" "+op+" of "+line(p[0], p[1]), got, err, want, api.OK)
			}
		}
	}
	for _, op := range append(signs(), "+", "=") {
		for _, wrong := range none() {
			for _, right := range list("void float vec3 int bool bvec4 sampler2D") {
				for _, p := range [][2]api.Type{{wrong, right}, {right, wrong}, {wrong, wrong}} {
					got, err := do(op, p[0], p[1])
					told(t, what+" "+op+" of what may not be", got, err, api.Type{}, api.ErrArg)
				}
			}
		}
	}
}

// P13.2: how many rows of types each operator takes, so that none is forgotten above.
func TestRows(t *testing.T) {
	want := map[string]int{"+": 20, "-": 20, "*": 20, "/": 20, "<": 2, ">": 2, "<=": 2, ">=": 2, "==": 12, "!=": 12, "&&": 1, "||": 1, "=": 12, "+=": 14, "-=": 14, "*=": 14, "/=": 14}
	found := 0
	for _, m := range []map[string]map[string]api.Type{binaries(), assigns()} {
		for op, rows := range m {
			found++
			if len(rows) != want[op] {
				t.Errorf("%s has %d rows; want %d", op, len(rows), want[op])
			}
		}
	}
	if found != len(want) {
		t.Errorf("%d operators; want %d", found, len(want))
	}
}

// P13.2: every operator with every two types, operators that there are not, types that may not be.
func TestBinary(t *testing.T) {
	both(t, "Binary", kinds.Binary, binaries())
}

// P13.2: every operator with every two types, operators that there are not, types that may not be.
func TestAssign(t *testing.T) {
	both(t, "Assign", kinds.Assign, assigns())
}

// P13.2: every operator with every type, operators that there are not, types that may not be.
func TestUnary(t *testing.T) {
	for _, op := range signs() {
		rows, isOp := unaries()[op]
		for _, a := range all() {
			got, err := kinds.Unary(op, a)
			want, ok := rows[line(a)]
			switch {
			case !isOp:
				told(t, "Unary "+op, got, err, api.Type{}, api.ErrNone)
			case !ok:
				told(t, "Unary "+op+" of "+line(a), got, err, api.Type{}, api.ErrType)
			default:
				told(t, "Unary "+op+" of "+line(a), got, err, want, api.OK)
			}
		}
		for _, wrong := range none() {
			got, err := kinds.Unary(op, wrong)
			told(t, "Unary "+op+" of what may not be", got, err, api.Type{}, api.ErrArg)
		}
	}
}

// P13.2: every three types, and types that may not be in each place.
func TestCond(t *testing.T) {
	rows := taken(behind(twice, itself))
	n := 0
	for _, c := range all() {
		for _, p := range pairs(all()) {
			got, err := kinds.Cond(c, p[0], p[1])
			if want, ok := rows[line(p[0], p[1])]; ok && c == of("bool") {
				n++
				told(t, "Cond of "+line(c, p[0], p[1]), got, err, want, api.OK)
			} else {
				told(t, "Cond of "+line(c, p[0], p[1]), got, err, api.Type{}, api.ErrType)
			}
		}
	}
	if n != 12 {
		t.Errorf("%d rows were taken; want 12", n)
	}
	for _, wrong := range none() {
		for _, p := range pairs(list("void float vec3 int bool bvec4 sampler2D")) {
			for _, l := range [][3]api.Type{{wrong, p[0], p[1]}, {p[0], wrong, p[1]}, {p[0], p[1], wrong}, {wrong, wrong, p[0]}, {p[0], wrong, wrong}, {wrong, p[0], wrong}, {wrong, wrong, wrong}} {
				got, err := kinds.Cond(l[0], l[1], l[2])
				told(t, "Cond of what may not be", got, err, api.Type{}, api.ErrArg)
			}
		}
	}
}

// P13.2: the chapter's examples.
func TestOperatorExamples(t *testing.T) {
	float, vec2, vec3 := of("float"), of("vec2"), of("vec3")
	got, err := kinds.Binary("*", float, vec3)
	told(t, "float * vec3", got, err, vec3, api.OK)
	got, err = kinds.Binary("+", of("int"), float)
	told(t, "int + float", got, err, api.Type{}, api.ErrType)
	got, err = kinds.Binary("<", vec2, vec2)
	told(t, "vec2 < vec2", got, err, api.Type{}, api.ErrType)
	got, err = kinds.Assign("*=", vec2, float)
	told(t, "vec2 *= float", got, err, vec2, api.OK)
	got, err = kinds.Assign("*=", float, vec2)
	told(t, "float *= vec2", got, err, api.Type{}, api.ErrType)
}
