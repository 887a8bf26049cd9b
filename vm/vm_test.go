package vm_test

import (
	"math"
	"reflect"
	"slices"
	"testing"

	"paintbox/api"
	"paintbox/vm"
)

const (
	vertex   = api.StageVertex
	fragment = api.StageFragment
	one      = api.One
)

// numbers answers the vector of these numbers.
func numbers(l ...float64) api.Vec {
	var v api.Vec
	for i, x := range l {
		v[i] = api.Fix(math.Round(x * 65536))
	}
	return v
}

// far answers ints that are no number of anything, also if their lower halves are.
func far() []int {
	return []int{math.MinInt, math.MinInt + 1, -1 << 32, 1<<32 - 1, 1 << 32, 1<<32 + 1, 1<<32 + 2, 1<<32 + 24, 257, 65536 + 1, math.MaxInt32, math.MaxInt - 1, math.MaxInt}
}

// sequence answers the ints from one to another.
func sequence(from, to int) []int {
	var l []int
	for x := from; x <= to; x++ {
		l = append(l, x)
	}
	return l
}

// bare answers a code of a stage with these registers and nothing else.
func bare(stage, regs int, l ...api.Instr) api.Code {
	return api.Code{Stage: stage, Instrs: l, Regs: regs}
}

// full answers a code of a stage with eight registers and all else that it can have.
func full(stage int, l ...api.Instr) api.Code {
	c := api.Code{Stage: stage, Instrs: l, Regs: 8, Uniforms: api.MaxUniforms, Varyings: api.MaxVaryings}
	if stage == vertex {
		c.Attribs = api.MaxAttribs
	}
	return c
}

// marks answers n vectors, all of whose numbers are their own and not 0.
func marks(n int, from api.Fix) []api.Vec {
	l := make([]api.Vec, n)
	for i := range l {
		for k := range l[i] {
			l[i][k] = from + api.Fix(10*i+k+1)
		}
	}
	return l
}

// around answers surroundings that fit a code, all of whose numbers are their own.
func around(c api.Code) api.Env {
	e := api.Env{Attribs: marks(c.Attribs, 1000), Uniforms: marks(c.Uniforms, 2000), Coord: api.Vec{4001, 4002, 4003, 4004}, Front: true, Point: api.Vec{5001, 5002, 5003, 5004}, Images: pictures()}
	if c.Stage == fragment {
		e.Varyings = marks(c.Varyings, 3000)
	}
	return e
}

// alike tells whether two results are the same, field by field.
func alike(a, b api.Result) bool {
	return a.Position == b.Position && a.Size == b.Size && slices.Equal(a.Varyings, b.Varyings) && a.Color == b.Color && a.Discard == b.Discard
}

// comes asks whether just this comes of a code, by just these places.
func comes(t *testing.T, c api.Code, e api.Env, want api.Result, places ...int) {
	t.Helper()
	if !vm.Fits(c, e) {
		t.Fatalf("%v does not fit", c)
	}
	if x, err := vm.Run(c, e); err != api.OK || !alike(x, want) {
		t.Errorf("%v\ncomes %v, %d; want %v", c.Instrs, x, err, want)
	}
	if l, err := vm.Trace(c, e); err != api.OK || !slices.Equal(l, places) {
		t.Errorf("%v\ngoes %v, %d; want %v", c.Instrs, l, err, places)
	}
}

// paints asks whether a code of the fragment stage that goes through all its instructions leaves this colour, and nothing beside.
func paints(t *testing.T, c api.Code, e api.Env, want api.Vec) {
	t.Helper()
	comes(t, c, e, api.Result{Color: want}, sequence(0, len(c.Instrs)-1)...)
}

// refused asks whether Run and Trace answer this error, and nothing beside, and Fits false.
func refused(t *testing.T, what string, c api.Code, e api.Env, want api.Errno) {
	t.Helper()
	if x, err := vm.Run(c, e); err != want || !reflect.DeepEqual(x, api.Result{}) {
		t.Errorf("%s: Run: %v, %d; want %d", what, x, err, want)
	}
	if l, err := vm.Trace(c, e); err != want || len(l) != 0 {
		t.Errorf("%s: Trace: %v, %d; want %d", what, l, err, want)
	}
	if vm.Fits(c, e) {
		t.Errorf("%s: it fits", what)
	}
}

// Instructions, in short.
func constant(dst int, v api.Vec) api.Instr { return api.Instr{Op: api.OpConst, Dst: dst, Imm: v} }
func move(dst, a int) api.Instr             { return api.Instr{Op: api.OpMove, Dst: dst, A: a} }
func load(dst, from, a int) api.Instr       { return api.Instr{Op: api.OpLoad, Dst: dst, Fn: from, A: a} }
func store(to, a, b int) api.Instr          { return api.Instr{Op: api.OpStore, Fn: to, A: a, B: b} }
func paint(b int) api.Instr                 { return store(api.ToColor, 0, b) }
func jump(a int) api.Instr                  { return api.Instr{Op: api.OpJump, A: a} }
func zero(a, b int) api.Instr               { return api.Instr{Op: api.OpZero, A: a, B: b} }
func tex(dst, a, b int) api.Instr           { return api.Instr{Op: api.OpTex, Dst: dst, A: a, B: b} }
func discard() api.Instr                    { return api.Instr{Op: api.OpDiscard} }

// pick answers an OpPick at these places.
func pick(dst, a int, places ...int) api.Instr {
	i := api.Instr{Op: api.OpPick, Dst: dst, A: a, N: len(places)}
	copy(i.Places[:], places)
	return i
}

// put answers an OpPut at these places.
func put(dst, a int, places ...int) api.Instr {
	i := pick(dst, a, places...)
	i.Op = api.OpPut
	return i
}

// P18.1, P18.2: the chapter's examples.
func TestExamples(t *testing.T) {
	paints(t, bare(fragment, 2, constant(0, api.Vec{1, 2, 3, 4}), pick(1, 0, 3, 2, 1, 0), paint(1)), api.Env{}, api.Vec{4, 3, 2, 1})
	c := bare(fragment, 2, load(0, api.FromUniform, 0), zero(4, 0), constant(1, numbers(1, 1, 1, 1)), paint(1))
	c.Uniforms = 1
	comes(t, c, api.Env{Uniforms: []api.Vec{{}}}, api.Result{}, 0, 1)
	comes(t, c, api.Env{Uniforms: []api.Vec{{1}}}, api.Result{Color: numbers(1, 1, 1, 1)}, 0, 1, 2, 3)
	comes(t, bare(fragment, 1, discard(), paint(0)), api.Env{}, api.Result{Discard: true}, 0)
}

// P18.1: surroundings fit by how many there are of each list: one too few and one too many, of each alone and of all.
func TestFits(t *testing.T) {
	for _, stage := range []int{vertex, fragment} {
		for _, attribs := range []int{0, 1, 8} {
			for _, uniforms := range []int{0, 1, 32} {
				for _, varyings := range []int{0, 1, 4} {
					if stage == fragment && attribs > 0 {
						continue
					}
					fitsAlone(t, api.Code{Stage: stage, Attribs: attribs, Uniforms: uniforms, Varyings: varyings})
				}
			}
		}
	}
}

// fitsAlone asks which lengths of the lists fit a code, of all those near to what it has.
func fitsAlone(t *testing.T, c api.Code) {
	t.Helper()
	handed := c.Varyings
	if c.Stage == vertex {
		handed = 0
	}
	var made []api.Vec
	if c.Stage == vertex {
		made = make([]api.Vec, c.Varyings)
	}
	for _, a := range []int{0, c.Attribs - 1, c.Attribs, c.Attribs + 1} {
		for _, u := range []int{0, c.Uniforms - 1, c.Uniforms, c.Uniforms + 1} {
			for _, v := range []int{0, handed - 1, handed, handed + 1, c.Varyings} {
				e := api.Env{Attribs: marks(max(a, 0), 1000), Uniforms: marks(max(u, 0), 2000), Varyings: marks(max(v, 0), 3000)}
				if len(e.Attribs) == c.Attribs && len(e.Uniforms) == c.Uniforms && len(e.Varyings) == handed {
					comes(t, c, e, api.Result{Varyings: made})
				} else {
					refused(t, "surroundings that do not fit", c, e, api.ErrArg)
				}
			}
		}
	}
}

// P18.1: nil and empty lists are one.
func TestEmptyLists(t *testing.T) {
	for _, stage := range []int{vertex, fragment} {
		comes(t, bare(stage, 0), api.Env{}, api.Result{})
		comes(t, bare(stage, 0, []api.Instr{}...), api.Env{Attribs: []api.Vec{}, Uniforms: []api.Vec{}, Varyings: []api.Vec{}, Images: []api.Image{}}, api.Result{})
	}
}

// P18.1: codes that may not be, in surroundings that fit and that do not: ErrCode goes ahead.
func TestNoCode(t *testing.T) {
	for what, c := range map[string]api.Code{
		"no stage":               {},
		"a stage below":          bare(-1, 1),
		"a stage above":          bare(3, 1),
		"registers below 0":      bare(vertex, -1),
		"too many registers":     bare(vertex, api.MaxRegs+1),
		"too many attributes":    {Stage: vertex, Attribs: api.MaxAttribs + 1},
		"attributes below 0":     {Stage: vertex, Attribs: -1},
		"attributes of cells":    {Stage: fragment, Attribs: 1},
		"too many uniforms":      {Stage: fragment, Uniforms: api.MaxUniforms + 1},
		"uniforms below 0":       {Stage: fragment, Uniforms: -1},
		"too many varyings":      {Stage: fragment, Varyings: api.MaxVaryings + 1},
		"too many made":          {Stage: vertex, Varyings: api.MaxVaryings + 1},
		"varyings below 0":       {Stage: vertex, Varyings: -1},
		"too many instructions":  bare(vertex, 1, slices.Repeat([]api.Instr{move(0, 0)}, api.MaxCode+1)...),
		"no Op":                  bare(fragment, 1, api.Instr{}),
		"an Op above":            bare(fragment, 1, api.Instr{Op: 13}),
		"no register to write":   bare(fragment, 1, constant(1, api.Vec{})),
		"a register below 0":     bare(fragment, 1, constant(-1, api.Vec{})),
		"no register to read":    bare(fragment, 1, move(0, 1)),
		"no uniform":             bare(fragment, 1, load(0, api.FromUniform, 0)),
		"no attribute":           bare(vertex, 1, load(0, api.FromAttrib, 0)),
		"no varying":             bare(fragment, 1, load(0, api.FromVarying, 0)),
		"a varying of vertices":  {Stage: vertex, Regs: 1, Varyings: 1, Instrs: []api.Instr{load(0, api.FromVarying, 0)}},
		"coord of vertices":      bare(vertex, 1, load(0, api.FromCoord, 0)),
		"load nothing":           bare(fragment, 1, load(0, 7, 0)),
		"colour of vertices":     bare(vertex, 1, paint(0)),
		"position of cells":      bare(fragment, 1, store(api.ToPosition, 0, 0)),
		"no varying to make":     bare(vertex, 1, store(api.ToVarying, 0, 0)),
		"store nowhere":          bare(fragment, 1, store(5, 0, 0)),
		"do nothing":             bare(fragment, 1, api.Instr{Op: api.OpDo, Base: 1, N: 1}),
		"do a texture":           bare(fragment, 1, api.Instr{Op: api.OpDo, Fn: api.FnTexture, Base: 1, N: 1}),
		"do to five":             bare(fragment, 1, api.Instr{Op: api.OpDo, Fn: api.FnAdd, Base: 1, N: 5}),
		"do to none":             bare(fragment, 1, api.Instr{Op: api.OpDo, Fn: api.FnAdd, Base: 1}),
		"add bools":              bare(fragment, 1, api.Instr{Op: api.OpDo, Fn: api.FnAdd, Base: 3, N: 1}),
		"pick none":              bare(fragment, 1, pick(0, 0)),
		"pick a fifth":           bare(fragment, 1, pick(0, 0, 4)),
		"put twice":              bare(fragment, 1, put(0, 0, 1, 1)),
		"convert from none":      bare(fragment, 1, api.Instr{Op: api.OpConv, N: 1, Fn: 1}),
		"convert to a sampler":   bare(fragment, 1, api.Instr{Op: api.OpConv, N: 1, Base: 1, Fn: 4}),
		"jump to itself":         bare(fragment, 1, jump(0)),
		"jump back":              bare(fragment, 1, jump(1), jump(0)),
		"jump beyond":            bare(fragment, 1, jump(2)),
		"jump beyond, perhaps":   bare(fragment, 1, zero(2, 0)),
		"discard a vertex":       bare(vertex, 1, discard()),
		"a field that is none's": bare(fragment, 1, api.Instr{Op: api.OpJump, A: 1, B: 1}),
		"wrong behind a discard": bare(fragment, 1, discard(), api.Instr{}),
		"wrong behind a jump":    bare(fragment, 1, jump(2), api.Instr{Op: 77}),
	} {
		refused(t, what, c, api.Env{}, api.ErrCode)
		refused(t, what, c, api.Env{Attribs: marks(max(c.Attribs, 0), 0), Uniforms: marks(max(c.Uniforms, 0), 0), Varyings: marks(max(c.Varyings, 0), 0)}, api.ErrCode)
		refused(t, what, c, api.Env{Attribs: marks(40, 0), Uniforms: marks(40, 0), Varyings: marks(40, 0)}, api.ErrCode)
	}
}

// P18.1: codes with each of their numbers far off.
func TestFarOff(t *testing.T) {
	for _, x := range far() {
		for k, c := range []api.Code{
			{Stage: x}, {Stage: vertex, Regs: x}, {Stage: vertex, Attribs: x}, {Stage: vertex, Uniforms: x}, {Stage: fragment, Varyings: x},
			bare(fragment, 1, api.Instr{Op: x}), bare(fragment, 1, move(x, 0)), bare(fragment, 1, move(0, x)), bare(fragment, 1, load(0, x, 0)), bare(fragment, 1, paint(x)), bare(fragment, 1, jump(x)), bare(fragment, 1, zero(1, x)), bare(fragment, 1, pick(0, 0, x)), bare(fragment, 1, put(0, 0, x)),
			bare(fragment, 1, api.Instr{Op: api.OpPick, N: x}), bare(fragment, 1, api.Instr{Op: api.OpDo, Fn: x, Base: 1, N: 1}), bare(fragment, 1, api.Instr{Op: api.OpDo, Fn: 1, Base: x, N: 1}), bare(fragment, 1, api.Instr{Op: api.OpDo, Fn: 1, Base: 1, N: x}), bare(fragment, 1, api.Instr{Op: api.OpConv, Fn: x, Base: 1, N: 1}),
		} {
			if k == 1 && x == 257 {
				continue // so many registers may be
			}
			refused(t, "far off", c, api.Env{}, api.ErrCode)
		}
	}
}
