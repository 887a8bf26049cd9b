package prog_test

import (
	"fmt"
	"slices"
	"testing"

	"paintbox/api"
	"paintbox/check"
	"paintbox/code"
	"paintbox/prog"
)

const end = "void main(){}"

// declarations answers n declarations of floats, whose names go on from a number.
func declarations(word string, from, n int) string {
	text := ""
	for i := range n {
		text += fmt.Sprintf("%s float n%d;", word, from+i)
	}
	return text
}

// P19.2: which slots a program has, and in which order.
func TestSlots(t *testing.T) {
	for _, r := range []struct {
		v, f                        string
		attribs, uniforms, varyings []api.Slot
	}{
		{"", "", nil, nil, nil},
		{"attribute vec4 p;", "", slots("vec4", "p"), nil, nil},
		{"attribute float a;attribute vec2 b,c;attribute vec3 d;", "", slots("float", "a", "vec2", "b", "vec2", "c", "vec3", "d"), nil, nil},
		// varyings: those that the fragment shader takes, in its order
		{"varying vec2 q;", "varying vec2 q;", nil, nil, slots("vec2", "q")},
		{"varying vec2 q;", "", nil, nil, nil},
		{"varying vec2 q;varying float r;varying vec4 s;", "varying float r;", nil, nil, slots("float", "r")},
		{"varying vec2 q;varying float r;varying vec4 s,t;", "varying vec4 t;varying float r;varying vec2 q;varying vec4 s;", nil, nil, slots("vec4", "t", "float", "r", "vec2", "q", "vec4", "s")},
		// uniforms: the vertex shader's, and behind them the others of the fragment shader
		{"uniform float u;", "", nil, slots("float", "u"), nil},
		{"", "uniform float u;", nil, slots("float", "u"), nil},
		{"uniform float u;", "uniform float u;", nil, slots("float", "u"), nil},
		{"uniform float u,w;", "uniform float w,u;", nil, slots("float", "u", "float", "w"), nil},
		{"uniform float u;uniform vec2 w;", "uniform sampler2D s;uniform vec2 w;uniform int i;", nil, slots("float", "u", "vec2", "w", "sampler2D", "s", "int", "i"), nil},
		{"uniform bvec3 b;", "uniform int x;uniform bvec3 b;uniform ivec4 a;", nil, slots("bvec3", "b", "int", "x", "ivec4", "a"), nil},
		{"uniform sampler2D s;", "uniform sampler2D s;", nil, slots("sampler2D", "s"), nil},
		// a name that means other things in both shaders
		{"attribute vec2 a;varying vec3 v;uniform float u;", "uniform int a;uniform bool v;", slots("vec2", "a"), slots("float", "u", "int", "a", "bool", "v"), nil},
		{"varying vec2 u;varying vec2 w;uniform float x;", "varying vec2 w;uniform vec3 u;float x;", nil, slots("float", "x", "vec3", "u"), slots("vec2", "w")},
		// what is no attribute, uniform or varying has no slot
		{"const float a=1.0;float b=2.0;uniform float u;float f(float x){float y;return y;}", "const vec2 u=vec2(1.0);", nil, slots("float", "u"), nil},
	} {
		p, err := prog.Link(compiled(t, vertex, r.v+end), compiled(t, fragment, r.f+end))
		if err != api.OK || !slices.Equal(p.Attribs, r.attribs) || !slices.Equal(p.Uniforms, r.uniforms) || !slices.Equal(p.Varyings, r.varyings) {
			t.Errorf("%s\n%s\n%v %v %v, %d", r.v, r.f, p.Attribs, p.Uniforms, p.Varyings, err)
		}
	}
}

// P19.2: both shaders stand in the program as they are.
func TestLinkHasBoth(t *testing.T) {
	v, f := compiled(t, vertex, "uniform vec2 u;varying vec2 q;void main(){q=u;gl_PointSize=u.y;}"), compiled(t, fragment, "varying vec2 q;void main(){if(q.x>1.0)discard;gl_FragColor.xy=q;}")
	p, err := prog.Link(v, f)
	if err != api.OK || !sameShader(p.Vertex, v) || !sameShader(p.Fragment, f) {
		t.Error(p, err)
	}
}

// P19.2: varyings and uniforms that do not go together.
func TestErrLink(t *testing.T) {
	for _, r := range []struct {
		v, f string
		want api.Errno
	}{
		// varyings that the vertex shader has not, or of another type
		{"", "varying vec2 q;", api.ErrLink},
		{"varying vec2 r;", "varying vec2 q;", api.ErrLink},
		{"varying vec2 Q;", "varying vec2 q;", api.ErrLink},
		{"varying vec2 q;", "varying vec3 q;", api.ErrLink},
		{"varying vec3 q;", "varying vec2 q;", api.ErrLink},
		{"varying float q;", "varying vec4 q;", api.ErrLink},
		{"varying vec2 q,r,s;", "varying vec2 q,r,t;", api.ErrLink},
		{"varying vec2 q,r;varying vec3 s;", "varying vec2 r;varying vec2 s;varying vec2 q;", api.ErrLink},
		{"varying vec2 q;varying vec3 r;", "varying vec3 q;varying vec2 r;", api.ErrLink},
		{"attribute vec2 q;", "varying vec2 q;", api.ErrLink},
		{"uniform vec2 q;", "varying vec2 q;", api.ErrLink},
		{"vec2 q;", "varying vec2 q;", api.ErrLink},
		{"varying vec2 q;", "varying vec2 q;", api.OK},
		// uniforms of both, of two types
		{"uniform float u;", "uniform vec2 u;", api.ErrLink},
		{"uniform vec4 u;", "uniform ivec4 u;", api.ErrLink},
		{"uniform int u;", "uniform bool u;", api.ErrLink},
		{"uniform sampler2D u;", "uniform int u;", api.ErrLink},
		{"uniform float u;", "uniform sampler2D u;", api.ErrLink},
		{"uniform float a,b,c;", "uniform float c,b;uniform int a;", api.ErrLink},
		{"uniform float a,b;uniform int c;", "uniform float d,e,c;", api.ErrLink},
		{"uniform float a;uniform int b;", "uniform int b;uniform float a;", api.OK},
		// a name of something else is no uniform of both
		{"attribute float u;", "uniform int u;", api.OK},
		{"varying float u;", "uniform int u;", api.OK},
		{"uniform float u;varying vec2 q;", "const int u=1;varying vec2 q;", api.OK},
	} {
		v, f := compiled(t, vertex, r.v+end), compiled(t, fragment, r.f+end)
		if r.want != api.OK {
			unlinked(t, v, f, r.want)
		} else if _, err := prog.Link(v, f); err != api.OK {
			t.Error(r.v, r.f, err)
		}
	}
}

// P19.2: as many uniforms as there can be, and one more; those that both have count once.
func TestManyUniforms(t *testing.T) {
	for _, r := range []struct{ v, both, f int }{{32, 0, 0}, {0, 0, 32}, {0, 32, 0}, {16, 0, 16}, {31, 0, 1}, {1, 0, 31}, {1, 30, 1}, {16, 1, 16}, {10, 12, 11}, {32, 0, 1}, {1, 0, 32}, {0, 31, 1}, {1, 31, 0}, {1, 31, 1}, {17, 15, 1}, {16, 16, 16}, {32, 0, 32}} {
		both := declarations("uniform", 100, r.both)
		v, f := compiled(t, vertex, declarations("uniform", 0, r.v)+both+end), compiled(t, fragment, both+declarations("uniform", 200, r.f)+end)
		if r.v+r.both+r.f > api.MaxUniforms {
			unlinked(t, v, f, api.ErrLong)
			continue
		}
		p, err := prog.Link(v, f)
		if err != api.OK || len(p.Uniforms) != r.v+r.both+r.f {
			t.Errorf("%v: %d, %d", r, len(p.Uniforms), err)
		}
	}
}

// P19.2: ErrArg ahead of ErrLink, ErrLink ahead of ErrLong, wherever in the lists each is met.
func TestFirstLinkError(t *testing.T) {
	many, others := declarations("uniform", 0, 31), declarations("uniform", 100, 31)
	long := func(v, f string) (api.Shader, api.Shader) {
		return compiled(t, vertex, many+v+end), compiled(t, fragment, others+f+end)
	}
	v, f := long("", "")
	unlinked(t, v, f, api.ErrLong)
	v, f = long("uniform float u;", "uniform int u;")
	unlinked(t, v, f, api.ErrLink)
	unlinked(t, compiled(t, vertex, "uniform float u;"+many+end), compiled(t, fragment, "uniform int u;"+others+end), api.ErrLink)
	v, f = long("varying vec2 q;", "varying vec3 q;")
	unlinked(t, v, f, api.ErrLink)
	unlinked(t, f, v, api.ErrArg)
	v.Code.Regs++
	unlinked(t, v, f, api.ErrArg)
	v, f = long("", "varying vec3 q;")
	unlinked(t, v, f, api.ErrLink)
	f.Checked.Main--
	unlinked(t, v, f, api.ErrArg)
	unlinked(t, v, compiled(t, vertex, "uniform int n0;"+end), api.ErrArg)
}

// P19.2: shaders of the wrong stage, the same one twice, an empty one.
func TestWrongStage(t *testing.T) {
	for _, text := range []string{end, "uniform float u;varying vec2 q;" + end} {
		v, f := compiled(t, vertex, text), compiled(t, fragment, text)
		if _, err := prog.Link(v, f); err != api.OK {
			t.Error(err)
		}
		for _, pair := range [][2]api.Shader{{f, v}, {v, v}, {f, f}, {v, {}}, {{}, f}, {f, {}}, {{}, v}, {}} {
			unlinked(t, pair[0], pair[1], api.ErrArg)
		}
	}
}

// P19.2: a shader whose Checked or Code is not what Check and Gen tell, on either side.
func TestMayNotBe(t *testing.T) {
	v := compiled(t, vertex, "attribute vec2 p,o;uniform float u,w;varying float q,r;const float k=2.0;float f(float a){return a*k;}void main(){gl_PointSize=f(p.x)+u;q=1.0;for(int i=-1;i<2;i++){q+=k;}}")
	f := compiled(t, fragment, "uniform sampler2D s;uniform float u;varying float q,r;bool g(int n){return n==2;}void main(){if(gl_FrontFacing)discard;else;gl_FragColor=g(1)?texture2D(s,vec2(q)):vec4(u).wzyx;}")
	if _, err := prog.Link(v, f); err != api.OK {
		t.Fatal(err)
	}
	for _, spoil := range spoiling(v) {
		s := copiedShader(v)
		if spoil(&s); sameShader(s, v) {
			t.Fatal("it is not spoilt")
		}
		unlinked(t, s, f, api.ErrArg)
	}
	for _, spoil := range spoiling(f) {
		s := copiedShader(f)
		if spoil(&s); sameShader(s, f) {
			t.Fatal("it is not spoilt")
		}
		unlinked(t, v, s, api.ErrArg)
	}
	if _, err := prog.Link(copiedShader(v), copiedShader(f)); err != api.OK {
		t.Error(err)
	}
}

// P19.2: what Check and Gen tell, of two shaders that are told, but not of one; and a code that means the shader, but is not the one that Gen tells.
func TestMixedShaders(t *testing.T) {
	a, b := compiled(t, vertex, "void main(){gl_PointSize=1.0;}"), compiled(t, vertex, "void main(){gl_PointSize=2.0;}")
	f := compiled(t, fragment, end)
	unlinked(t, api.Shader{Checked: a.Checked, Code: b.Code}, f, api.ErrArg)
	unlinked(t, api.Shader{Checked: b.Checked, Code: a.Code}, f, api.ErrArg)
	unlinked(t, api.Shader{Checked: a.Checked}, f, api.ErrArg)
	unlinked(t, api.Shader{Code: a.Code}, f, api.ErrArg)
	unlinked(t, api.Shader{Checked: a.Checked, Code: f.Code}, f, api.ErrArg)
	unlinked(t, a, api.Shader{Checked: f.Checked, Code: a.Code}, api.ErrArg)
	longer := copiedShader(f)
	longer.Code.Instrs = append(longer.Code.Instrs, api.Instr{Op: api.OpJump, A: len(longer.Code.Instrs) + 1})
	if code.Check(longer.Code) != api.OK {
		t.Fatal(longer.Code)
	}
	unlinked(t, a, longer, api.ErrArg)
}

// P19.2: a shader that Check takes and that Gen has no code for, whatever stands for its code.
func TestNoCode(t *testing.T) {
	v, f := compiled(t, vertex, end), compiled(t, fragment, end)
	for stage := vertex; stage <= fragment; stage++ {
		tree := compiled(t, stage, "void main(){for(int i=0;i<5;i++){for(int k=0;k<5;k++);}}").Checked.Tree
		for i, n := range tree.Nodes {
			if n.Kind == api.NodeInt && n.Num == 5*one {
				tree.Nodes[i].Num = 64 * one
			}
		}
		c, spot := check.Check(tree, stage)
		if spot.Err != api.OK {
			t.Fatal(spot)
		}
		for _, x := range []api.Code{{}, {Stage: stage}, v.Code, f.Code} {
			if stage == vertex {
				unlinked(t, api.Shader{Checked: c, Code: x}, f, api.ErrArg)
			} else {
				unlinked(t, v, api.Shader{Checked: c, Code: x}, api.ErrArg)
			}
		}
	}
}

// P19.2: a shader may be wherever its nodes stand, and nil and empty lists are one.
func TestPlacesAndNil(t *testing.T) {
	v, f := compiled(t, vertex, end), compiled(t, fragment, "uniform float u;void main(){gl_FragColor=vec4(u);}")
	for i := range f.Checked.Tree.Nodes {
		f.Checked.Tree.Nodes[i].At = 100 - i
	}
	empty := func(l []int) []int { return append([]int{}, l...) }
	for _, s := range []*api.Shader{&v, &f} {
		s.Checked.Attribs, s.Checked.Uniforms, s.Checked.Varyings = empty(s.Checked.Attribs), empty(s.Checked.Uniforms), empty(s.Checked.Varyings)
		s.Code.Instrs = append([]api.Instr{}, s.Code.Instrs...)
		for i := range s.Checked.Tree.Nodes {
			s.Checked.Tree.Nodes[i].Kids = empty(s.Checked.Tree.Nodes[i].Kids)
		}
	}
	p, err := prog.Link(v, f)
	if err != api.OK || !sameShader(p.Vertex, v) || !sameShader(p.Fragment, f) || p.Fragment.Checked.Tree.Nodes[1].At != 99 {
		t.Error(p, err)
	}
	nothing := compiled(t, vertex, end)
	nothing.Code.Instrs = nil
	if _, err := prog.Link(nothing, f); err != api.OK {
		t.Error(err)
	}
}

// P19.2: the first slot of a name, byte by byte; none of nothing.
func TestFind(t *testing.T) {
	l := slots("float", "a", "vec2", "b", "float", "a", "int", "B", "bool", "", "vec4", "ab", "vec2", "b")
	for name, want := range map[string]int{"a": 0, "b": 1, "B": 3, "": 4, "ab": 5} {
		if at, err := prog.Find(l, name); at != want || err != api.OK {
			t.Errorf("%q: %d, %d; want %d", name, at, err, want)
		}
	}
	for _, name := range []string{"A", "c", "abc", "ba", " a", "a ", "a\x00", "float", "\xff"} {
		if at, err := prog.Find(l, name); at != 0 || err != api.ErrNone {
			t.Errorf("%q: %d, %d", name, at, err)
		}
	}
	for _, l := range [][]api.Slot{nil, {}, slots("float", "a")[:0], slots("float", "b")} {
		for _, name := range []string{"a", ""} {
			if at, err := prog.Find(l, name); at != 0 || err != api.ErrNone {
				t.Errorf("%v, %q: %d, %d", l, name, at, err)
			}
		}
	}
	last := append(slices.Repeat(slots("float", "a"), 1000), slot("int", "z"))
	if at, err := prog.Find(last, "z"); at != 1000 || err != api.OK {
		t.Error(at, err)
	}
	if before := slots("float", "a", "vec2", "b", "float", "a", "int", "B", "bool", "", "vec4", "ab", "vec2", "b"); !slices.Equal(l, before) {
		t.Error("Find has changed the list")
	}
}

// P19.2: chance shaders, that go together or not quite: refused as the chapter says, or with just its slots.
func TestChanceLinks(t *testing.T) {
	told := map[api.Errno]int{}
	for seed := range 1000 {
		w := chance(seed)
		d := newDraft(&w)
		if !w.yes(3) {
			d.worsen()
		}
		v, f := compiled(t, vertex, d.vertexText()), compiled(t, fragment, d.fragmentText())
		uniforms, want := d.link()
		told[want]++
		p, err := prog.Link(v, f)
		if err != want {
			t.Fatalf("%v\n%d; want %d", d, err, want)
		}
		if want != api.OK {
			unlinked(t, v, f, want)
			continue
		}
		if !slices.Equal(p.Attribs, slotsOf(d.attribs)) || !slices.Equal(p.Uniforms, slotsOf(uniforms)) || !slices.Equal(p.Varyings, slotsOf(d.taken)) || !sameShader(p.Vertex, v) || !sameShader(p.Fragment, f) {
			t.Fatalf("%v\n%v %v %v", d, p.Attribs, p.Uniforms, p.Varyings)
		}
	}
	if told[api.OK] < 400 || told[api.ErrLink] < 150 || told[api.ErrLong] < 25 {
		t.Error(told)
	}
}

// slotsOf answers the slots of items.
func slotsOf(l []item) []api.Slot {
	var words []string
	for _, x := range l {
		words = append(words, x.kind, x.name)
	}
	return slots(words...)
}
