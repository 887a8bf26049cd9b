package prog_test

import (
	"fmt"
	"slices"
	"testing"

	"paintbox/api"
	"paintbox/prog"
	"paintbox/sense"
	"paintbox/vm"
)

// meant answers the value of each name among the items that are wanted.
func meant(want []item, values map[string]api.Vec) []api.Vec {
	l := make([]api.Vec, len(want))
	for i, x := range want {
		l[i] = values[x.name]
	}
	return l
}

// named answers values by the names of items, in their order.
func named(l []item, values []api.Vec) map[string]api.Vec {
	m := map[string]api.Vec{}
	for i, x := range l {
		m[x.name] = values[i]
	}
	return m
}

// around answers surroundings by chance, with these uniforms; samplers say images from -1 on.
func (d *draft) around(uniforms []item) api.Env {
	e := api.Env{Uniforms: d.vectors(len(uniforms)), Coord: d.vector(), Front: d.yes(2), Point: d.vector(), Images: pictures()}
	for i, x := range uniforms {
		if x.kind == "sampler2D" {
			e.Uniforms[i][0] = api.Fix(d.below(5) - 1)
		}
	}
	return e
}

// P19.4: chance shaders, compiled and linked: what comes of them is what sense tells of both, by the names.
func TestMeans(t *testing.T) {
	told := map[string]int{}
	for seed := range 800 {
		w := chance(seed)
		d := newDraft(&w)
		v, f := d.vertexText(), d.fragmentText()
		p := linked(t, v, f)
		uniforms, _ := d.link()
		for range 4 {
			e := d.around(uniforms)
			values := named(uniforms, e.Uniforms)

			mine, theirs := e, e
			mine.Attribs = d.vectors(len(d.attribs))
			theirs.Attribs, theirs.Uniforms = mine.Attribs, meant(d.vUniforms, values)
			want, err := sense.Run(p.Vertex.Checked, theirs)
			if err != api.OK {
				t.Fatal(v, err)
			}
			want.Varyings = meant(d.taken, named(d.made, want.Varyings))
			got, err := prog.RunVertex(p, mine)
			if err != api.OK || !vm.Same(got, want) {
				t.Fatalf("%s\n%s\n%v\n%v, %d; want %v", v, f, mine, got, err, want)
			}

			mine, theirs = e, e
			mine.Varyings = got.Varyings
			theirs.Varyings, theirs.Uniforms = got.Varyings, meant(d.fUniforms, values)
			want, err = sense.Run(p.Fragment.Checked, theirs)
			if err != api.OK {
				t.Fatal(f, err)
			}
			painted, err := prog.RunFragment(p, mine)
			if err != api.OK || !vm.Same(painted, want) {
				t.Fatalf("%s\n%s\n%v\n%v, %d; want %v", v, f, mine, painted, err, want)
			}
			switch {
			case want.Discard:
				told["discarded"]++
			case want.Color != api.Vec{}:
				told["painted"]++
			}
			if len(got.Varyings) > 1 && got.Varyings[0] != got.Varyings[1] {
				told["varied"]++
			}
		}
	}
	if told["discarded"] < 150 || told["painted"] < 2000 || told["varied"] < 600 {
		t.Error(told)
	}
}

// P19.4: compiled and linked again, both from the texts and from the program's own shaders, it is the same program.
func TestLinkAgain(t *testing.T) {
	for seed := range 300 {
		w := chance(seed)
		d := newDraft(&w)
		v, f := d.vertexText(), d.fragmentText()
		p := linked(t, v, f)
		prog.Link(compiled(t, vertex, "uniform vec2 z;"+end), p.Fragment)
		again, err := prog.Link(p.Vertex, p.Fragment)
		if q := linked(t, v, f); err != api.OK || !prog.Same(p, q) || !prog.Same(p, again) || fmt.Sprint(p) != fmt.Sprint(q) {
			t.Fatalf("%s\n%s\n%v\n%v, %d", v, f, p, again, err)
		}
	}
}

// roomy answers a list with room behind its end, and a mark there.
func roomy[T any](l []T, mark T) []T {
	return append(slices.Clone(l), mark)[:len(l)]
}

// roomyShader answers a shader in whose lists there is room behind the end.
func roomyShader(s api.Shader) api.Shader {
	s = copiedShader(s)
	c := &s.Checked
	for i := range c.Tree.Nodes {
		c.Tree.Nodes[i].Kids = roomy(c.Tree.Nodes[i].Kids, 77)
	}
	c.Tree.Nodes = roomy(c.Tree.Nodes, api.Node{Kind: 77})
	c.Types, c.Uses, c.Fns = roomy(c.Types, api.Type{Base: 77}), roomy(c.Uses, 77), roomy(c.Fns, 77)
	c.Attribs, c.Uniforms, c.Varyings = roomy(c.Attribs, 77), roomy(c.Uniforms, 77), roomy(c.Varyings, 77)
	s.Code.Instrs = roomy(s.Code.Instrs, api.Instr{Op: 77})
	return s
}

// whole answers a shader as a text, with the room behind its lists' ends.
func whole(s api.Shader) string {
	c := s.Checked
	text := ""
	for _, n := range c.Tree.Nodes {
		text += fmt.Sprint(n.Kids[:len(n.Kids)+1])
	}
	n := len(c.Tree.Nodes) + 1
	return text + fmt.Sprint(c.Tree.Nodes[:n], c.Stage, c.Types[:n], c.Uses[:n], c.Fns[:n], c.Attribs[:len(c.Attribs)+1], c.Uniforms[:len(c.Uniforms)+1], c.Varyings[:len(c.Varyings)+1], c.Main, s.Code, s.Code.Instrs[:len(s.Code.Instrs)+1])
}

// P19.2, P19.3: what is handed in is not changed, nor the room behind a list's end.
func TestNotChanged(t *testing.T) {
	for seed := range 200 {
		w := chance(seed)
		d := newDraft(&w)
		v, f := roomyShader(compiled(t, vertex, d.vertexText())), roomyShader(compiled(t, fragment, d.fragmentText()))
		before := whole(v) + whole(f)
		p, err := prog.Link(v, f)
		prog.Link(f, v)
		if err != api.OK || whole(v)+whole(f) != before {
			t.Fatalf("%s\nhas become\n%s, %d", before, whole(v)+whole(f), err)
		}
		mark := slot("int", "mark")
		p.Vertex, p.Fragment = v, f
		p.Attribs, p.Uniforms, p.Varyings = roomy(p.Attribs, mark), roomy(p.Uniforms, mark), roomy(p.Varyings, mark)
		uniforms, _ := d.link()
		e := d.around(uniforms)
		e.Attribs, e.Uniforms, e.Varyings = roomy(d.vectors(len(p.Attribs)), api.Vec{77}), roomy(e.Uniforms, api.Vec{77}), roomy(d.vectors(len(p.Varyings)), api.Vec{77})
		attribs, varyings := e.Attribs, e.Varyings
		lists := func() string {
			return fmt.Sprint(p.Attribs[:len(p.Attribs)+1], p.Uniforms[:len(p.Uniforms)+1], p.Varyings[:len(p.Varyings)+1], attribs[:len(attribs)+1], e.Uniforms[:len(e.Uniforms)+1], varyings[:len(varyings)+1], e.Images, e.Coord, e.Point, e.Front)
		}
		told := lists()
		e.Varyings = nil
		_, one := prog.RunVertex(p, e)
		e.Attribs, e.Varyings = nil, varyings
		_, two := prog.RunFragment(p, e)
		prog.Same(p, p)
		if one != api.OK || two != api.OK || lists() != told || whole(v)+whole(f) != before {
			t.Fatalf("%s\nhas become\n%s, %d, %d", told, lists(), one, two)
		}
	}
}

// spoil changes all that a shader's lists hold.
func spoil(s api.Shader) {
	for i := range s.Checked.Tree.Nodes {
		for k := range s.Checked.Tree.Nodes[i].Kids {
			s.Checked.Tree.Nodes[i].Kids[k] = 77
		}
		s.Checked.Tree.Nodes[i] = api.Node{Text: "spoilt", Kids: []int{77}}
	}
	for _, l := range [][]int{s.Checked.Uses, s.Checked.Fns, s.Checked.Attribs, s.Checked.Uniforms, s.Checked.Varyings} {
		for i := range l {
			l[i] = 77
		}
	}
	for i := range s.Checked.Types {
		s.Checked.Types[i] = api.Type{Base: 77}
	}
	for i := range s.Code.Instrs {
		s.Code.Instrs[i] = api.Instr{Op: 77}
	}
}

// P19.1, P19.2: what is answered is new memory: neither what was handed in nor another answer shares any with it.
func TestNewMemory(t *testing.T) {
	for seed := range 200 {
		w := chance(seed)
		d := newDraft(&w)
		texts := []string{d.vertexText(), d.fragmentText()}
		v, f := compiled(t, vertex, texts[0]), compiled(t, fragment, texts[1])
		p, _ := prog.Link(v, f)
		q, _ := prog.Link(v, f)
		first := fmt.Sprint(p)
		spoil(q.Vertex)
		spoil(q.Fragment)
		for _, l := range [][]api.Slot{q.Attribs, q.Uniforms, q.Varyings} {
			for i := range l {
				l[i].Name = "spoilt"
			}
		}
		r, err := prog.Link(v, f)
		if err != api.OK || fmt.Sprint(p) != first || fmt.Sprint(r) != first {
			t.Fatalf("%s\n%v\n%v, %d", texts, p, r, err)
		}
		spoil(v)
		spoil(f)
		if fmt.Sprint(p) != first || fmt.Sprint(r) != first || fmt.Sprint(linked(t, texts[0], texts[1])) != first {
			t.Fatalf("%s\n%v\n%v", texts, p, r)
		}
	}
}

// P19.2: no two lists of one answer share memory: what is put behind one is in no other.
func TestListsApart(t *testing.T) {
	p := linked(t, "attribute vec2 a;uniform float u;varying vec2 q,r;"+end, "uniform float u,w;varying vec2 r,q;"+end)
	lists := []*[]api.Slot{&p.Attribs, &p.Uniforms, &p.Varyings}
	for _, l := range lists {
		*l = append(*l, slot("int", "x"))
		for i := range *l {
			(*l)[i].Name += "_"
		}
	}
	if !slices.Equal(p.Attribs, slots("vec2", "a_", "int", "x_")) || !slices.Equal(p.Uniforms, slots("float", "u_", "float", "w_", "int", "x_")) || !slices.Equal(p.Varyings, slots("vec2", "r_", "vec2", "q_", "int", "x_")) {
		t.Error(p.Attribs, p.Uniforms, p.Varyings)
	}
	if !sameShader(p.Vertex, compiled(t, vertex, "attribute vec2 a;uniform float u;varying vec2 q,r;"+end)) {
		t.Error(p.Vertex)
	}
}

// P19.3: what comes of a run is new memory, and is not kept.
func TestNewResults(t *testing.T) {
	p := linked(t, "attribute vec2 a;varying vec2 q,r;void main(){q=a;r=a.yx;}", "varying vec2 r,q;void main(){gl_FragColor=vec4(r,q);}")
	e := api.Env{Attribs: []api.Vec{numbers(1, 2)}}
	want := []api.Vec{numbers(2, 1), numbers(1, 2)}
	first, _ := prog.RunVertex(p, e)
	second, _ := prog.RunVertex(p, e)
	second.Varyings[0], second.Varyings[1] = api.Vec{77}, api.Vec{78}
	e.Attribs[0] = api.Vec{79}
	if !slices.Equal(first.Varyings, want) || e.Attribs[0] != (api.Vec{79}) {
		t.Error(first)
	}
	vertexRun(t, p, api.Env{Attribs: []api.Vec{numbers(1, 2)}}, api.Result{Varyings: want})
}
