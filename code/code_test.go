package code_test

import (
	"math"
	"slices"
	"testing"

	"paintbox/api"
	"paintbox/code"
)

const (
	vertex   = api.StageVertex
	fragment = api.StageFragment
)

// full answers a code of a stage with all it can have.
func full(stage int, l ...api.Instr) api.Code {
	c := api.Code{Stage: stage, Instrs: l, Regs: api.MaxRegs, Uniforms: api.MaxUniforms, Varyings: api.MaxVaryings}
	if stage == vertex {
		c.Attribs = api.MaxAttribs
	}
	return c
}

// bare answers a code of a stage with these registers and nothing else.
func bare(stage, regs int, l ...api.Instr) api.Code {
	return api.Code{Stage: stage, Instrs: l, Regs: regs}
}

// far answers ints that are no number of anything, also if their lower halves are.
func far() []int {
	return []int{math.MinInt, math.MinInt + 1, -1 << 32, 1<<32 - 1, 1 << 32, 1<<32 + 1, 1<<32 + 2, math.MaxInt32, math.MaxInt - 1, math.MaxInt}
}

// sequence answers the ints from one to another.
func sequence(from, to int) []int {
	var l []int
	for x := from; x <= to; x++ {
		l = append(l, x)
	}
	return l
}

// wantCheck asks whether a code may be, and whether the other calls say the same.
func wantCheck(t *testing.T, what string, c api.Code, may bool) {
	t.Helper()
	want, listed := api.OK, len(c.Instrs)+1
	if !may {
		want, listed = api.ErrCode, 0
	}
	if err := code.Check(c); err != want {
		t.Errorf("%s: Check: %d; want %d", what, err, want)
	}
	if r := code.Reach(c); len(r) != listed {
		t.Errorf("%s: Reach: %v", what, r)
	}
	if b, err := code.Encode(c); err != want || may != (len(b) > 0) {
		t.Errorf("%s: Encode: %d bytes, %d; want %d", what, len(b), err, want)
	}
}

// P16.1: the chapter's examples.
func TestExamples(t *testing.T) {
	add := api.Instr{Op: api.OpDo, Fn: api.FnAdd, Base: api.BaseFloat, N: 4, Dst: 1, B: 1}
	bool4, five, more := add, add, add
	bool4.Base, five.N, more.C = api.BaseBool, 5, 1
	for _, r := range []struct {
		what string
		c    api.Code
		may  bool
	}{
		{"const, store", bare(vertex, 2, api.Instr{Op: api.OpConst}, api.Instr{Op: api.OpStore, Fn: api.ToPosition}), true},
		{"add", bare(vertex, 2, add), true},
		{"add of bools", bare(vertex, 2, bool4), false},
		{"add of five", bare(vertex, 2, five), false},
		{"add of three", bare(vertex, 2, more), false},
		{"jump to the end", bare(vertex, 2, api.Instr{Op: api.OpJump, A: 1}), true},
		{"jump to itself", bare(vertex, 2, api.Instr{Op: api.OpJump}), false},
		{"discard", bare(vertex, 2, api.Instr{Op: api.OpDiscard}), false},
		{"varying", bare(vertex, 2, api.Instr{Op: api.OpLoad, Fn: api.FromVarying}), false},
		{"move 2 to 0", bare(vertex, 2, api.Instr{Op: api.OpMove, A: 2}), false},
		{"nothing", bare(vertex, 2), true},
	} {
		wantCheck(t, r.what, r.c, r.may)
	}
}

// P16.1: stages that there are and others, with and without instructions.
func TestStages(t *testing.T) {
	for _, s := range append(far(), sequence(-3, 6)...) {
		may := s == 1 || s == 2
		wantCheck(t, "a stage without instructions", bare(s, 0), may)
		wantCheck(t, "a stage", bare(s, 1, api.Instr{Op: api.OpConst}), may)
	}
}

// P16.1: each number of a code at its least, at its greatest and one beyond.
func TestHeads(t *testing.T) {
	for _, r := range []struct {
		what  string
		stage int
		field func(*api.Code) *int
		most  int
	}{
		{"Regs", vertex, func(c *api.Code) *int { return &c.Regs }, 1024},
		{"Regs", fragment, func(c *api.Code) *int { return &c.Regs }, 1024},
		{"Attribs", vertex, func(c *api.Code) *int { return &c.Attribs }, 8},
		{"Attribs", fragment, func(c *api.Code) *int { return &c.Attribs }, 0},
		{"Uniforms", vertex, func(c *api.Code) *int { return &c.Uniforms }, 32},
		{"Uniforms", fragment, func(c *api.Code) *int { return &c.Uniforms }, 32},
		{"Varyings", vertex, func(c *api.Code) *int { return &c.Varyings }, 4},
		{"Varyings", fragment, func(c *api.Code) *int { return &c.Varyings }, 4},
	} {
		for _, c := range []api.Code{bare(r.stage, 0), full(r.stage)} {
			for _, x := range append(far(), -2, -1, 0, 1, r.most-1, r.most, r.most+1, r.most+2) {
				*r.field(&c) = x
				wantCheck(t, r.what, c, x >= 0 && x <= r.most)
			}
		}
	}
}

// P16.1: MaxCode instructions, and one more.
func TestLength(t *testing.T) {
	for _, n := range []int{0, 1, 4095, 4096, 4097, 5000} {
		for _, stage := range []int{vertex, fragment} {
			wantCheck(t, "a long code", bare(stage, 1, alike(n, api.Instr{Op: api.OpConst})...), n <= 4096)
		}
	}
	l := alike(4096, api.Instr{Op: api.OpConst})
	for _, k := range []int{0, 1, 2048, 4095} {
		c := bare(vertex, 1, slices.Clone(l)...)
		c.Instrs[k].Dst = 1
		wantCheck(t, "one that may not be, within a long code", c, false)
	}
}

// alike answers n instructions that are alike.
func alike(n int, i api.Instr) []api.Instr {
	l := make([]api.Instr, n)
	for k := range l {
		l[k] = i
	}
	return l
}

// P16.1: Ops that there are not.
func TestOps(t *testing.T) {
	for _, op := range append(far(), -12, -5, -1, 0, 13, 14, 255, 256, 257, 1<<16+1) {
		wantCheck(t, "no Op", full(fragment, api.Instr{Op: op}), false)
		wantCheck(t, "no Op", full(vertex, api.Instr{Op: op, A: 1, N: 1, Fn: 1, Base: 1}), false)
	}
}

// P16.1: what may be loaded in each stage, with places at their least, their greatest and one beyond.
func TestLoads(t *testing.T) {
	most := map[int]map[int]int{
		vertex:   {api.FromAttrib: 7, api.FromUniform: 31},
		fragment: {api.FromUniform: 31, api.FromVarying: 3, api.FromCoord: 0, api.FromFront: 0, api.FromPoint: 0},
	}
	for stage, of := range most {
		for _, fn := range append(far(), sequence(-2, 9)...) {
			for _, a := range append(far(), sequence(-2, 40)...) {
				m, is := of[fn]
				wantCheck(t, "a load", full(stage, api.Instr{Op: api.OpLoad, Fn: fn, A: a}), is && a >= 0 && a <= m)
			}
		}
	}
	for _, r := range []struct{ stage, fn int }{{vertex, api.FromAttrib}, {vertex, api.FromUniform}, {fragment, api.FromUniform}, {fragment, api.FromVarying}} {
		for n := range 5 {
			c := api.Code{Stage: r.stage, Regs: 1, Uniforms: n, Varyings: n}
			if r.stage == vertex {
				c.Attribs = n
			}
			for a := range 6 {
				c.Instrs = []api.Instr{{Op: api.OpLoad, Fn: r.fn, A: a}}
				wantCheck(t, "a load of few", c, a < n)
			}
		}
	}
	apart := api.Code{Stage: vertex, Regs: 1, Attribs: 1, Uniforms: 2, Varyings: 3}
	for fn, n := range map[int]int{api.FromAttrib: 1, api.FromUniform: 2, api.FromVarying: 0} {
		for a := range 5 {
			apart.Instrs = []api.Instr{{Op: api.OpLoad, Fn: fn, A: a}}
			wantCheck(t, "a load of one kind", apart, a < n)
		}
	}
}

// P16.1: where may be stored in each stage, with places at their least, their greatest and one beyond.
func TestStores(t *testing.T) {
	most := map[int]map[int]int{
		vertex:   {api.ToPosition: 0, api.ToSize: 0, api.ToVarying: 3},
		fragment: {api.ToColor: 0},
	}
	for stage, of := range most {
		for _, fn := range append(far(), sequence(-2, 9)...) {
			for _, a := range append(far(), sequence(-2, 10)...) {
				m, is := of[fn]
				wantCheck(t, "a store", full(stage, api.Instr{Op: api.OpStore, Fn: fn, A: a}), is && a >= 0 && a <= m)
			}
		}
	}
	for n := range 5 {
		for a := range 6 {
			c := api.Code{Stage: vertex, Regs: 1, Attribs: 8, Uniforms: 32, Varyings: n, Instrs: []api.Instr{{Op: api.OpStore, Fn: api.ToVarying, A: a}}}
			wantCheck(t, "a store of few", c, a < n)
		}
	}
}

// P16.1: each function with each Base, each N.
func TestDo(t *testing.T) {
	for fn := -1; fn <= 37; fn++ {
		for base := -1; base <= 5; base++ {
			for _, n := range append(far(), sequence(-2, 7)...) {
				i := api.Instr{Op: api.OpDo, Fn: fn, Base: base, N: n}
				wantCheck(t, "a do", bare(vertex, 1, i), wantArgs(fn, base) > 0 && n >= 1 && n <= 4)
			}
		}
	}
}

// P16.1: of A, B, C as many count as the function takes.
func TestDoArguments(t *testing.T) {
	for fn := 1; fn <= 35; fn++ {
		for base := 1; base <= 3; base++ {
			n := wantArgs(fn, base)
			for k, field := range []func(*api.Instr) *int{
				func(i *api.Instr) *int { return &i.A },
				func(i *api.Instr) *int { return &i.B },
				func(i *api.Instr) *int { return &i.C },
			} {
				for _, x := range append(far(), -1, 1, 4, 5) {
					i := api.Instr{Op: api.OpDo, Fn: fn, Base: base, N: 2}
					*field(&i) = x
					wantCheck(t, "an argument", bare(fragment, 5, i), k < n && x >= 0 && x <= 4)
				}
			}
		}
	}
}

// P16.1: jumps to every place from the least to the greatest and beyond, from each place.
func TestJumps(t *testing.T) {
	for n := 1; n <= 5; n++ {
		for k := range n {
			for _, a := range append(far(), sequence(-2, n+3)...) {
				for _, i := range []api.Instr{{Op: api.OpJump, A: a}, {Op: api.OpZero, A: a}} {
					c := bare(vertex, 1, alike(n, api.Instr{Op: api.OpConst})...)
					c.Instrs[k] = i
					wantCheck(t, "a jump", c, a >= k+1 && a <= n)
				}
			}
		}
	}
	last := bare(vertex, 1, alike(4096, api.Instr{Op: api.OpJump, A: 4096})...)
	wantCheck(t, "jumps to the end of a long code", last, true)
	last.Instrs[7].A = 4097
	wantCheck(t, "a jump beyond the end of a long code", last, false)
}

// P16.1: a discard in each stage.
func TestDiscard(t *testing.T) {
	wantCheck(t, "a discard of a vertex", full(vertex, api.Instr{Op: api.OpDiscard}), false)
	wantCheck(t, "a discard of a fragment", full(fragment, api.Instr{Op: api.OpDiscard}), true)
	wantCheck(t, "a discard without registers", bare(fragment, 0, api.Instr{Op: api.OpDiscard}), true)
}

// P16.1: places, at each of the four, behind the first N too; twice in OpPick and in OpPut.
func TestPlaces(t *testing.T) {
	values := []int{-1, 0, 1, 2, 3, 4}
	for n := 1; n <= 4; n++ {
		for x := range 6 * 6 * 6 * 6 {
			p := [4]int{values[x%6], values[x/6%6], values[x/36%6], values[x/216]}
			may, twice := true, false
			for k := range p {
				may = may && p[k] >= 0 && p[k] <= 3 && (k < n || p[k] == 0)
				twice = twice || k < n && slices.Contains(p[:k], p[k])
			}
			i := api.Instr{Op: api.OpPick, N: n, Places: p}
			if code.Check(bare(vertex, 1, i)) == api.OK != may {
				t.Errorf("Pick %d of %v", n, p)
			}
			i.Op = api.OpPut
			if code.Check(bare(fragment, 1, i)) == api.OK != (may && !twice) {
				t.Errorf("Put %d at %v", n, p)
			}
		}
	}
	for _, x := range far() {
		for k := range 4 {
			i := api.Instr{Op: api.OpPick, N: k + 1}
			i.Places[k] = x
			wantCheck(t, "a place that is none", bare(vertex, 1, i), false)
			i = api.Instr{Op: api.OpPut, N: 4, Places: [4]int{0, 1, 2, 3}}
			i.Places[k] = x
			wantCheck(t, "a place that is none", bare(vertex, 1, i), false)
		}
	}
}

// P16.1: N of OpPick, OpPut and OpConv; N does not hide places behind it.
func TestCounts(t *testing.T) {
	for _, n := range append(far(), sequence(-3, 9)...) {
		may := n >= 1 && n <= 4
		wantCheck(t, "pick", bare(vertex, 1, api.Instr{Op: api.OpPick, N: n}), may)
		wantCheck(t, "put", bare(vertex, 1, api.Instr{Op: api.OpPut, N: n}), n == 1)
		wantCheck(t, "put", bare(vertex, 1, api.Instr{Op: api.OpPut, N: n, Places: [4]int{3, 2, 1, 0}}), n == 3 || n == 4)
		wantCheck(t, "pick", bare(vertex, 1, api.Instr{Op: api.OpPick, N: n, Places: [4]int{0, 0, 0, 1}}), n == 4)
		wantCheck(t, "convert", bare(vertex, 1, api.Instr{Op: api.OpConv, N: n, Base: 1, Fn: 2}), may)
	}
}

// P16.1: the two Bases of OpConv.
func TestConvBases(t *testing.T) {
	is := func(base int) bool { return base >= 1 && base <= 3 }
	for _, from := range append(far(), sequence(-2, 7)...) {
		for _, to := range append(far(), sequence(-2, 7)...) {
			wantCheck(t, "convert", bare(fragment, 1, api.Instr{Op: api.OpConv, N: 2, Base: from, Fn: to}), is(from) && is(to))
		}
	}
}

// P16.1: any Imm.
func TestConst(t *testing.T) {
	for _, x := range []api.Fix{0, 1, -1, api.One, api.Most, api.Least} {
		for k := range 4 {
			i := api.Instr{Op: api.OpConst}
			i.Imm[k] = x
			wantCheck(t, "a constant", bare(vertex, 1, i), true)
		}
	}
}
