package code_test

import (
	"slices"
	"testing"

	"paintbox/api"
	"paintbox/code"
)

// chance makes numbers that look thrown, the same at each run.
type chance uint64

func (c *chance) below(n int) int {
	*c = *c*6364136223846793005 + 1442695040888963407
	return int(uint64(*c) >> 33 % uint64(n))
}

// fields answers where the numbers of an instruction stand, but for Op and Imm.
func fields(i *api.Instr) []*int {
	return []*int{&i.Fn, &i.Base, &i.N, &i.Dst, &i.A, &i.B, &i.C, &i.Places[0], &i.Places[1], &i.Places[2], &i.Places[3]}
}

// The numbers of fields.
const (
	fn = iota
	base
	count
	dst
	a
	b
	c3
	place
)

// span is from where to where a field may be.
type span [2]int

// spans answers the chapter's table a second time: for the instruction at the place k what each field may be; fields that do not count from 0 to 0.
func spans(c api.Code, k int) (row [11]span, is bool) {
	i := c.Instrs[k]
	never := span{1, 0}
	reg := span{0, c.Regs - 1}
	within := span{k + 1, len(c.Instrs)}
	four := span{1, 4}
	placed := func() {
		row[count] = four
		for x := 0; x < i.N && x < 4; x++ {
			row[place+x] = span{0, 3}
		}
	}
	// counted answers the span of A, by Fn and stage: how many there are of it, or that there is none such.
	counted := func(of map[[2]int]int) {
		row[fn] = never
		if n, ok := of[[2]int{c.Stage, i.Fn}]; ok {
			row[fn], row[a] = span{i.Fn, i.Fn}, span{0, n - 1}
		}
	}
	switch i.Op {
	case 1:
		row[dst] = reg
	case 2:
		row[dst], row[a] = reg, reg
	case 3:
		row[dst] = reg
		counted(map[[2]int]int{{1, 1}: c.Attribs, {1, 2}: c.Uniforms, {2, 2}: c.Uniforms, {2, 3}: c.Varyings, {2, 4}: 1, {2, 5}: 1, {2, 6}: 1})
	case 4:
		row[b] = reg
		counted(map[[2]int]int{{1, 1}: 1, {1, 2}: 1, {1, 3}: c.Varyings, {2, 4}: 1})
	case 5:
		row[dst], row[count] = reg, four
		row[fn], row[base] = span{i.Fn, i.Fn}, span{i.Base, i.Base}
		n := wantArgs(i.Fn, i.Base)
		for x := range n {
			row[a+x] = reg
		}
		if n == 0 {
			row[fn] = never
		}
	case 6, 7:
		row[dst], row[a] = reg, reg
		placed()
	case 8:
		row[dst], row[a], row[count], row[base], row[fn] = reg, reg, four, span{1, 3}, span{1, 3}
	case 9:
		row[dst], row[a], row[b] = reg, reg, reg
	case 10:
		row[a] = within
	case 11:
		row[a], row[b] = within, reg
	case 12:
		if c.Stage != 2 {
			return row, false
		}
	default:
		return row, false
	}
	return row, true
}

// mayBe answers whether an instruction may be, by its fields' spans.
func mayBe(c api.Code, k int) bool {
	row, is := spans(c, k)
	i := c.Instrs[k]
	if !is || i.Op != 1 && i.Imm != (api.Vec{}) {
		return false
	}
	for x, f := range fields(&i) {
		if *f < row[x][0] || *f > row[x][1] {
			return false
		}
	}
	if i.Op == 7 {
		l := slices.Sorted(slices.Values(i.Places[:i.N]))
		return len(slices.Compact(l)) == i.N
	}
	return true
}

// model answers whether a code may be, whose numbers beside the instructions may.
func model(c api.Code) bool {
	for k := range c.Instrs {
		if !mayBe(c, k) {
			return false
		}
	}
	return true
}

// goodOne answers one instruction that may be at the place k of n, by chance, of a code that has at least one of each.
func goodOne(c *chance, x api.Code, k, n int) api.Instr {
	for {
		i := api.Instr{Op: 1 + c.below(12)}
		if i.Op == 1 {
			i.Imm = api.Vec{api.Fix(c.below(1 << 31)), -api.Fix(c.below(1 << 31)), api.Least, api.Fix(c.below(3))}
		}
		i.Fn, i.Base, i.N = c.below(36), c.below(4), c.below(5)
		if c.below(2) == 0 {
			i.Fn = c.below(7)
		}
		x.Instrs = make([]api.Instr, n)
		x.Instrs[k] = i
		row, _ := spans(x, k)
		for y, f := range fields(&i) {
			if s := row[y]; s[1] >= s[0] {
				*f = s[0] + c.below(s[1]-s[0]+1)
			}
		}
		x.Instrs[k] = i
		if mayBe(x, k) {
			return i
		}
	}
}

// goodCode answers a code that may be, by chance.
func goodCode(c *chance, most int) api.Code {
	x := api.Code{Stage: 1 + c.below(2), Regs: 1 + c.below(9), Uniforms: 1 + c.below(3), Varyings: 1 + c.below(3)}
	if x.Stage == vertex {
		x.Attribs = 1 + c.below(8)
	}
	n := c.below(most + 1)
	var l []api.Instr
	for k := range n {
		l = append(l, goodOne(c, x, k, n))
	}
	x.Instrs = l
	return x
}

// P16.1, P16.5: chance codes that may be; each register that they read or write is theirs; and each with one field changed, held against the table.
func TestCheckChance(t *testing.T) {
	c := chance(11)
	seen := map[int]int{}
	for range 800 {
		x := goodCode(&c, 8)
		wantCheck(t, "a code that may be", x, true)
		for k, i := range x.Instrs {
			seen[i.Op]++
			touched := code.Reads(i)
			if d, ok := code.Writes(i); ok {
				touched = append(touched, d)
			}
			for _, r := range touched {
				if r < 0 || r >= x.Regs {
					t.Errorf("%v with %d registers", i, x.Regs)
				}
			}
			for f := range fields(&i) {
				y := x
				y.Instrs = slices.Clone(x.Instrs)
				*fields(&y.Instrs[k])[f] = sequence(-2, 42)[c.below(45)]
				if got := code.Check(y) == api.OK; got != model(y) {
					t.Fatalf("%v at %d of %v: %v", y.Instrs[k], k, y, got)
				}
			}
		}
	}
	for op := 1; op <= 12; op++ {
		if seen[op] < 50 {
			t.Errorf("%d of Op %d", seen[op], op)
		}
	}
}

// P16.1: for every Op each field alone, at every value about its edges; those that do not count only at 0.
func TestCheckFields(t *testing.T) {
	values := append(far(), sequence(-2, 41)...)
	for _, stage := range []int{vertex, fragment} {
		for _, regs := range []int{1, 5} {
			for op := 1; op <= 12; op++ {
				c := chance(op)
				x := api.Code{Stage: stage, Regs: regs, Uniforms: 2, Varyings: 1}
				if stage == vertex {
					x.Attribs = 3
					if op == api.OpDiscard {
						continue
					}
				}
				for range 6 {
					i := of(&c, x, op)
					x.Instrs = []api.Instr{plain, plain, i, plain}
					for f := range fields(&i) {
						for _, v := range values {
							*fields(&x.Instrs[2])[f] = v
							if got := code.Check(x) == api.OK; got != model(x) {
								t.Fatalf("%v at 2 of 4 with %d registers: %v", x.Instrs[2], regs, got)
							}
							x.Instrs[2] = i
						}
					}
				}
			}
		}
	}
}

// of answers an instruction of this Op that may be at the place 2 of 4.
func of(c *chance, x api.Code, op int) api.Instr {
	for {
		if i := goodOne(c, x, 2, 4); i.Op == op {
			return i
		}
	}
}

// P16.1: a field that does not count and is not 0, for each Op; Imm too.
func TestOtherFields(t *testing.T) {
	counts := map[int][]int{
		api.OpConst: {dst}, api.OpMove: {dst, a}, api.OpLoad: {dst, fn, a}, api.OpStore: {fn, a, b}, api.OpDo: {dst, fn, base, count, a}, api.OpPick: {dst, a, count, place}, api.OpPut: {dst, a, count, place}, api.OpConv: {dst, a, count, base, fn}, api.OpTex: {dst, a, b}, api.OpJump: {a}, api.OpZero: {a, b}, api.OpDiscard: {},
	}
	least := []api.Instr{
		{Op: api.OpConst}, {Op: api.OpMove}, {Op: api.OpLoad, Fn: api.FromUniform}, {Op: api.OpStore, Fn: api.ToColor}, {Op: api.OpDo, Fn: api.FnAbs, Base: 1, N: 1}, {Op: api.OpPick, N: 1}, {Op: api.OpPut, N: 1}, {Op: api.OpConv, N: 1, Base: 1, Fn: 1}, {Op: api.OpTex}, {Op: api.OpJump, A: 1}, {Op: api.OpZero, A: 1}, {Op: api.OpDiscard},
	}
	for _, i := range least {
		wantCheck(t, "the least of an Op", full(fragment, i), true)
		for f := range fields(&i) {
			if slices.Contains(counts[i.Op], f) {
				continue
			}
			for _, v := range append(far(), -1, 1, 2, 3) {
				x := i
				*fields(&x)[f] = v
				wantCheck(t, "a field that does not count", full(fragment, x), false)
			}
		}
		for k := range 4 {
			for _, v := range []api.Fix{1, -1, api.Most, api.Least} {
				x := i
				x.Imm[k] = v
				wantCheck(t, "Imm", full(fragment, x), i.Op == api.OpConst)
			}
		}
	}
}

// P16.1, P16.5: each register at Regs less one and at Regs; codes without registers.
func TestRegisters(t *testing.T) {
	regsOf := map[int][]int{
		api.OpConst: {dst}, api.OpMove: {dst, a}, api.OpLoad: {dst}, api.OpStore: {b}, api.OpDo: {dst, a, b, c3}, api.OpPick: {dst, a}, api.OpPut: {dst, a}, api.OpConv: {dst, a}, api.OpTex: {dst, a, b}, api.OpZero: {b},
	}
	for _, i := range []api.Instr{
		{Op: api.OpConst}, {Op: api.OpMove}, {Op: api.OpLoad, Fn: api.FromUniform}, {Op: api.OpStore, Fn: api.ToColor}, {Op: api.OpDo, Fn: api.FnMix, Base: 1, N: 4}, {Op: api.OpPick, N: 1}, {Op: api.OpPut, N: 1}, {Op: api.OpConv, N: 1, Base: 1, Fn: 1}, {Op: api.OpTex}, {Op: api.OpZero, A: 1},
	} {
		for _, regs := range []int{0, 1, 2, 7, 1024} {
			c := full(fragment, i)
			c.Regs = regs
			wantCheck(t, "registers", c, regs > 0)
			for _, f := range regsOf[i.Op] {
				for _, r := range append(far(), -1, regs-1, regs, regs+1) {
					c.Instrs[0] = i
					*fields(&c.Instrs[0])[f] = r
					wantCheck(t, "a register", c, regs > 0 && r >= 0 && r < regs)
				}
				c.Instrs[0] = i
			}
		}
	}
	wantCheck(t, "a jump without registers", bare(vertex, 0, jump(1)), true)
}
