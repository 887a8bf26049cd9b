package prog_test

import (
	"fmt"
	"slices"
	"strings"

	"paintbox/api"
)

// item is a variable that a shader is handed, or hands on: a type's word and a name.
type item struct{ kind, name string }

// draft is two shaders that are to go together: what they are handed, and what the vertex shader makes and the fragment shader takes.
type draft struct {
	*chance
	attribs, vUniforms, fUniforms, made, taken []item
	reads                                      []item // what may be read where the text is just now
}

// floats are the types' words of attributes and varyings.
func floats() []string { return strings.Fields("float vec2 vec3 vec4") }

// kinds are the types' words of uniforms.
func kinds() []string {
	return strings.Fields("float float vec2 vec3 vec4 int ivec2 ivec3 ivec4 bool bvec2 bvec3 bvec4 sampler2D")
}

// newDraft answers a draft of two shaders that go together. Names that one shader has for one thing the other one may have for another.
func newDraft(c *chance) *draft {
	d := &draft{chance: c}
	names := shuffled(c, names(24))
	next := func(kinds []string) item {
		x := item{c.of(kinds...), names[0]}
		names = names[1:]
		return x
	}
	for range c.below(4) {
		d.attribs = append(d.attribs, next(floats()))
	}
	for range c.below(6) {
		d.vUniforms = append(d.vUniforms, next(kinds()))
	}
	for range c.below(api.MaxVaryings + 1) {
		d.made = append(d.made, next(floats()))
	}
	d.taken = shuffled(c, d.made)[:c.below(len(d.made)+1)]
	both := shuffled(c, d.vUniforms)[:c.below(len(d.vUniforms)+1)]
	for range c.below(4) {
		x := next(kinds())
		if at := c.below(8); at < len(d.attribs) {
			x.name = d.attribs[at].name
		}
		if !slices.ContainsFunc(both, func(y item) bool { return y.name == x.name }) {
			both = append(both, x)
		}
	}
	d.fUniforms = shuffled(c, both)
	return d
}

// names answers n names.
func names(n int) []string {
	l := make([]string, n)
	for i := range l {
		l[i] = fmt.Sprintf("%c%d", 'a'+i%7, i)
	}
	return l
}

// link is what the chapter says of linking the two.
func (d *draft) link() (uniforms []item, err api.Errno) {
	for _, x := range d.taken {
		if !slices.Contains(d.made, x) {
			return nil, api.ErrLink
		}
	}
	kind := map[string]string{}
	for _, x := range d.vUniforms {
		kind[x.name] = x.kind
	}
	uniforms = slices.Clone(d.vUniforms)
	for _, x := range d.fUniforms {
		if kind[x.name] == "" {
			uniforms = append(uniforms, x)
		} else if kind[x.name] != x.kind {
			return nil, api.ErrLink
		}
	}
	if len(uniforms) > api.MaxUniforms {
		return nil, api.ErrLong
	}
	return uniforms, api.OK
}

// vertexText writes the vertex shader, as one that there is a code for.
func (d *draft) vertexText() string {
	return d.short(vertex, func() string {
		text := d.declared([]string{"attribute", "uniform", "varying"}, d.attribs, d.vUniforms, d.made)
		d.reads = slices.Concat(d.attribs, d.vUniforms, d.made)
		outs := append(slices.Clone(d.made), item{"vec4", "gl_Position"}, item{"float", "gl_PointSize"})
		return text + d.body(shuffled(d.chance, outs), "")
	})
}

// fragmentText writes the fragment shader, as one that there is a code for.
func (d *draft) fragmentText() string {
	return d.short(fragment, func() string {
		text := d.declared([]string{"uniform", "varying"}, d.fUniforms, d.taken)
		d.reads = slices.Concat(d.fUniforms, d.taken, d.taken, []item{{"vec4", "gl_FragCoord"}, {"bool", "gl_FrontFacing"}, {"vec2", "gl_PointCoord"}})
		leave := ""
		if d.yes(3) {
			leave = "if(" + d.expr(1, 1) + ">" + d.expr(1, 0) + ")discard;"
		}
		return text + d.body([]item{{"vec4", "gl_FragColor"}, {"vec4", "gl_FragColor"}}, leave)
	})
}

// short writes till there is a code for it.
func (d *draft) short(stage int, write func() string) string {
	for {
		text := write()
		switch _, spot := chained(text, stage); spot.Err {
		case api.OK:
			return text
		case api.ErrLong:
			continue
		default:
			panic(fmt.Sprint(text, spot))
		}
	}
}

// declared writes declarations: each list in its order, the lists through one another.
func (d *draft) declared(words []string, lists ...[]item) string {
	text, at := "", make([]int, len(lists))
	for left := len(slices.Concat(lists...)); left > 0; {
		k := d.below(len(lists))
		if at[k] == len(lists[k]) {
			continue
		}
		x := lists[k][at[k]]
		text += words[k] + " " + x.kind + " " + x.name
		for at[k]++; at[k] < len(lists[k]) && lists[k][at[k]].kind == x.kind && d.yes(2); at[k]++ {
			text += "," + lists[k][at[k]].name
			left--
		}
		text += ";"
		left--
	}
	return text
}

// body writes a constant, a function and main, in which all outs are set.
func (d *draft) body(outs []item, leave string) string {
	text := "const float k=0.75;float h(float x){if(x>k)return x*k;return " + d.expr(1, 0) + ";}void main(){"
	for _, out := range outs {
		text += d.statement(out)
	}
	return text + leave + "}"
}

// statement writes what sets an out.
func (d *draft) statement(out item) string {
	n := size(out.kind)
	switch d.below(5) {
	case 0:
		return "if(" + d.expr(1, 0) + "<" + d.expr(1, 0) + "){" + out.name + "=" + d.expr(n, 1) + ";}else " + out.name + d.of("=", "+=") + d.expr(n, 1) + ";"
	case 1:
		return fmt.Sprintf("for(int i=%d;i<%d;i++){%s+=float(i)*%s;}", d.below(3)-1, d.below(4), out.name, d.expr(n, 0))
	case 2:
		if n > 1 {
			return out.name + "." + "xyzw"[n-1:n] + "x=" + d.expr(2, 1) + ";"
		}
	}
	return out.name + "=" + d.expr(n, 2) + ";"
}

// size answers how many numbers a type's word says.
func size(kind string) int {
	if n := int(kind[len(kind)-1] - '0'); n >= 2 && n <= 4 && kind != "sampler2D" {
		return n
	}
	return 1
}

// word answers the word of floats of a size.
func word(n int) string {
	if n == 1 {
		return "float"
	}
	return fmt.Sprint("vec", n)
}

// expr writes an expression of n floats.
func (d *draft) expr(n, depth int) string {
	if depth == 0 {
		return d.leaf(n)
	}
	e := func(n int) string { return d.expr(n, depth-1) }
	switch d.below(8) {
	case 0:
		return "(" + e(n) + d.of("+", "-", "*", "/") + e(n) + ")"
	case 1:
		return d.of("min", "max") + "(" + e(n) + "," + e(1) + ")"
	case 2:
		return "(" + e(1) + d.of("<", ">", "<=", ">=", "==", "!=") + e(1) + "?" + e(n) + ":" + e(n) + ")"
	case 3:
		return "(-" + e(n) + ")"
	case 4:
		return "mix(" + e(n) + "," + e(n) + "," + e(1) + ")"
	case 5:
		return word(n) + "(h(" + e(1) + "))"
	case 6:
		return e(4) + "." + d.of("xyzw", "wzyx", "rrbb", "tspq")[:n]
	}
	return d.leaf(n)
}

// leaf writes n floats of one variable, or a number.
func (d *draft) leaf(n int) string {
	if len(d.reads) == 0 || d.yes(6) {
		return word(n) + "(" + d.of("0.5", "-1.25", "3.0", "2", "true") + ")"
	}
	x := d.reads[d.below(len(d.reads))]
	switch s := size(x.kind); {
	case x.kind == "sampler2D":
		return word(n) + "(texture2D(" + x.name + ",vec2(" + d.of("0.25", "0.75", "1.5") + ")))"
	case s == 1 || s >= n:
		return word(n) + "(" + x.name + ")"
	default:
		return word(n) + "(" + x.name + strings.Repeat(",0.5", n-s) + ")"
	}
}
