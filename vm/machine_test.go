package vm_test

import (
	"slices"
	"testing"

	"paintbox/api"
	"paintbox/vm"
)

// do answers an OpDo.
func do(dst, fn, base, n int, args ...int) api.Instr {
	i := api.Instr{Op: api.OpDo, Fn: fn, Base: base, N: n, Dst: dst}
	for k, r := range args {
		*[]*int{&i.A, &i.B, &i.C}[k] = r
	}
	return i
}

// conv answers an OpConv.
func conv(dst, a, from, to, n int) api.Instr {
	return api.Instr{Op: api.OpConv, Dst: dst, A: a, Base: from, Fn: to, N: n}
}

// P18.1: OpConst and OpMove: all four numbers, each time anew; what was moved stays where it was.
func TestConstMove(t *testing.T) {
	v := api.Vec{api.Least, api.Most, -1, 7}
	paints(t, bare(fragment, 1, constant(0, v), paint(0)), api.Env{}, v)
	paints(t, bare(fragment, 1, constant(0, v), constant(0, api.Vec{0, 9}), paint(0)), api.Env{}, api.Vec{0, 9})
	paints(t, bare(fragment, 3, constant(0, v), move(2, 0), constant(0, api.Vec{5}), paint(2)), api.Env{}, v)
	paints(t, bare(fragment, 3, constant(0, v), move(2, 0), constant(2, api.Vec{5}), paint(0)), api.Env{}, v)
	paints(t, bare(fragment, 3, constant(0, v), move(0, 0), paint(0)), api.Env{}, v)
	paints(t, bare(fragment, 3, constant(0, v), move(0, 1), paint(0)), api.Env{}, api.Vec{})
}

// P18.1: OpLoad: each From, each number of it, as it was handed in.
func TestLoad(t *testing.T) {
	v, f := full(vertex), full(fragment)
	ev, ef := around(v), around(f)
	for a := range api.MaxAttribs {
		v.Instrs = []api.Instr{load(7, api.FromAttrib, a), store(api.ToPosition, 0, 7)}
		comes(t, v, ev, api.Result{Position: ev.Attribs[a], Varyings: make([]api.Vec, 4)}, 0, 1)
	}
	for a := range api.MaxUniforms {
		v.Instrs = []api.Instr{load(3, api.FromUniform, a), store(api.ToPosition, 0, 3)}
		comes(t, v, ev, api.Result{Position: ev.Uniforms[a], Varyings: make([]api.Vec, 4)}, 0, 1)
		f.Instrs = []api.Instr{load(3, api.FromUniform, a), paint(3)}
		paints(t, f, ef, ef.Uniforms[a])
	}
	for a := range api.MaxVaryings {
		f.Instrs = []api.Instr{load(0, api.FromVarying, a), paint(0)}
		paints(t, f, ef, ef.Varyings[a])
	}
}

// P18.1: OpLoad of what there is one of: Coord, Front either way, Point; the numbers behind the ones that are told are noughts, whatever stood in Dst.
func TestLoadBuiltin(t *testing.T) {
	e := api.Env{Coord: api.Vec{api.Least, 2, 3, api.Most}, Front: true, Point: api.Vec{-5, 6, 7, 8}}
	for from, want := range map[int]api.Vec{api.FromCoord: e.Coord, api.FromFront: {1}, api.FromPoint: {-5, 6}} {
		paints(t, bare(fragment, 1, constant(0, api.Vec{9, 9, 9, 9}), load(0, from, 0), paint(0)), e, want)
	}
	e.Front = false
	paints(t, bare(fragment, 1, constant(0, api.Vec{9, 9, 9, 9}), load(0, api.FromFront, 0), paint(0)), e, api.Vec{})
}

// P18.1: OpStore: each To, each number of it; ToSize the first number alone; the last store counts; others stay.
func TestStore(t *testing.T) {
	a, b := api.Vec{1, 2, 3, 4}, api.Vec{-5, -6, -7, -8}
	c := func(l ...api.Instr) api.Code {
		x := full(vertex, append([]api.Instr{constant(0, a), constant(1, b)}, l...)...)
		x.Attribs, x.Uniforms = 0, 0
		return x
	}
	none := make([]api.Vec, 4)
	comes(t, c(store(api.ToPosition, 0, 1)), api.Env{}, api.Result{Position: b, Varyings: none}, 0, 1, 2)
	comes(t, c(store(api.ToSize, 0, 1)), api.Env{}, api.Result{Size: -5, Varyings: none}, 0, 1, 2)
	comes(t, c(store(api.ToPosition, 0, 1), store(api.ToPosition, 0, 0)), api.Env{}, api.Result{Position: a, Varyings: none}, 0, 1, 2, 3)
	comes(t, c(store(api.ToSize, 0, 1), store(api.ToSize, 0, 0)), api.Env{}, api.Result{Size: 1, Varyings: none}, 0, 1, 2, 3)
	comes(t, c(store(api.ToSize, 0, 1), store(api.ToPosition, 0, 0)), api.Env{}, api.Result{Size: -5, Position: a, Varyings: none}, 0, 1, 2, 3)
	for k := range 4 {
		want := make([]api.Vec, 4)
		want[k] = b
		comes(t, c(store(api.ToVarying, k, 1)), api.Env{}, api.Result{Varyings: want}, 0, 1, 2)
		comes(t, c(store(api.ToVarying, k, 0), store(api.ToVarying, k, 1)), api.Env{}, api.Result{Varyings: want}, 0, 1, 2, 3)
		want = slices.Clone(want)
		want[(k+1)%4] = a
		comes(t, c(store(api.ToVarying, k, 1), store(api.ToVarying, (k+1)%4, 0)), api.Env{}, api.Result{Varyings: want}, 0, 1, 2, 3)
	}
	paints(t, bare(fragment, 2, constant(0, a), constant(1, b), paint(0), paint(1)), api.Env{}, b)
	// What was stored stays, whatever becomes of the register.
	paints(t, bare(fragment, 1, constant(0, a), paint(0), constant(0, b)), api.Env{}, a)
}

// P18.1: of the vertex stage come just as many Varyings as the code has; of the fragment stage none.
func TestMadeVaryings(t *testing.T) {
	for n := range api.MaxVaryings + 1 {
		comes(t, api.Code{Stage: vertex, Varyings: n}, api.Env{}, api.Result{Varyings: make([]api.Vec, n)})
		comes(t, api.Code{Stage: fragment, Varyings: n}, api.Env{Varyings: marks(n, 0)}, api.Result{})
	}
}

// P18.1: OpDo: Dst is what Fn does, noughts behind; Dst may be an argument.
func TestDoInstruction(t *testing.T) {
	start := []api.Instr{constant(0, numbers(1, 2, 3, 4)), constant(1, numbers(10, 20, 30, 40)), constant(2, numbers(0.5, 0, 1, 2)), constant(3, numbers(9, 9, 9, 9))}
	for _, r := range []struct {
		i    api.Instr
		want api.Vec
	}{
		{do(3, api.FnAdd, 1, 4, 0, 1), numbers(11, 22, 33, 44)},
		{do(3, api.FnAdd, 1, 2, 0, 1), numbers(11, 22)},
		{do(3, api.FnSub, 1, 1, 0, 1), numbers(-9)},
		{do(3, api.FnSub, 1, 1, 1, 0), numbers(9)},
		{do(3, api.FnMix, 1, 3, 0, 1, 2), numbers(5.5, 2, 30)},
		{do(3, api.FnMix, 1, 2, 1, 0, 2), numbers(5.5, 20)},
		{do(3, api.FnClamp, 1, 2, 1, 2, 0), numbers(1, 2)},
		{do(3, api.FnNeg, 1, 3, 1), numbers(-10, -20, -30)},
		{do(3, api.FnNeg, 2, 2, 1), numbers(-10, -20)},
		{do(3, api.FnDiv, 2, 2, 1, 0), api.Vec{10, 10}},
		{do(3, api.FnDiv, 1, 2, 1, 0), numbers(10, 10)},
		{do(3, api.FnDot, 1, 3, 0, 1), numbers(140)},
		{do(3, api.FnLength, 1, 1, 1), numbers(10)},
		{do(3, api.FnCross, 1, 1, 0, 2), numbers(2, 0.5, -1)},
		{do(3, api.FnLess, 1, 4, 0, 1), api.Vec{1}},
		{do(3, api.FnMore, 2, 4, 0, 1), api.Vec{}},
		{do(3, api.FnSame, 3, 4, 0, 0), api.Vec{1}},
		{do(3, api.FnOther, 3, 4, 0, 1), api.Vec{1}},
		{do(3, api.FnNot, 3, 4, 2), api.Vec{}},
		{do(3, api.FnAdd, 1, 3, 3, 3), numbers(18, 18, 18)},
		{do(3, api.FnAdd, 1, 4, 3, 0), numbers(10, 11, 12, 13)},
		{do(3, api.FnMin, 1, 4, 0, 3), numbers(1, 2, 3, 4)},
	} {
		paints(t, bare(fragment, 4, append(slices.Clone(start), r.i, paint(3))...), api.Env{}, r.want)
	}
	// The arguments stay.
	for k := range 3 {
		paints(t, bare(fragment, 4, append(slices.Clone(start), do(3, api.FnMix, 1, 2, 0, 1, 2), paint(k))...), api.Env{}, start[k].Imm)
	}
}

// P18.1: OpPick: A's numbers at the places, in order; noughts behind; a place may stand there twice; Dst may be A.
func TestPick(t *testing.T) {
	from, other := api.Vec{11, 12, 13, 14}, api.Vec{9, 9, 9, 9}
	for n := 1; n <= 4; n++ {
		count := 1
		for range n {
			count *= 4
		}
		for x := range count {
			var places []int
			var want api.Vec
			for k := range n {
				places = append(places, x%4)
				want[k] = from[x%4]
				x /= 4
			}
			paints(t, bare(fragment, 2, constant(0, from), constant(1, other), pick(1, 0, places...), paint(1)), api.Env{}, want)
			paints(t, bare(fragment, 2, constant(1, from), pick(1, 1, places...), paint(1)), api.Env{}, want)
		}
	}
}

// P18.1: OpPut: Dst as it was, but for A's first numbers at the places; A may be Dst.
func TestPut(t *testing.T) {
	into, from := api.Vec{1, 2, 3, 4}, api.Vec{11, 12, 13, 14}
	for _, r := range []struct {
		places     []int
		want, self api.Vec
	}{
		{[]int{0}, api.Vec{11, 2, 3, 4}, api.Vec{1, 2, 3, 4}},
		{[]int{3}, api.Vec{1, 2, 3, 11}, api.Vec{1, 2, 3, 1}},
		{[]int{2, 0}, api.Vec{12, 2, 11, 4}, api.Vec{2, 2, 1, 4}},
		{[]int{1, 2, 0}, api.Vec{13, 11, 12, 4}, api.Vec{3, 1, 2, 4}},
		{[]int{0, 1, 2, 3}, from, into},
		{[]int{3, 2, 1, 0}, api.Vec{14, 13, 12, 11}, api.Vec{4, 3, 2, 1}},
		{[]int{1, 2, 3, 0}, api.Vec{14, 11, 12, 13}, api.Vec{4, 1, 2, 3}},
	} {
		paints(t, bare(fragment, 2, constant(0, from), constant(1, into), put(1, 0, r.places...), paint(1)), api.Env{}, r.want)
		paints(t, bare(fragment, 2, constant(0, from), constant(1, into), put(1, 0, r.places...), paint(0)), api.Env{}, from)
		paints(t, bare(fragment, 2, constant(1, into), put(1, 1, r.places...), paint(1)), api.Env{}, r.self)
	}
	// Into a register that was never set, and of one.
	paints(t, bare(fragment, 2, constant(0, from), put(1, 0, 2, 1), paint(1)), api.Env{}, api.Vec{0, 12, 11, 0})
	paints(t, bare(fragment, 2, constant(0, from), put(0, 1, 2, 1), paint(0)), api.Env{}, api.Vec{11, 0, 0, 14})
}

// P18.1: OpConv: the first numbers, converted from Base to Fn; noughts behind.
func TestConvInstruction(t *testing.T) {
	from := api.Vec{98304, -98304, 3, 0}
	for _, r := range []struct {
		from, to int
		want     api.Vec
	}{
		{1, 1, from}, {1, 2, api.Vec{1, -1, 0, 0}}, {1, 3, api.Vec{1, 1, 1, 0}},
		{2, 1, api.Vec{api.Most, api.Least, 3 * one, 0}}, {2, 2, from}, {2, 3, api.Vec{1, 1, 1, 0}},
		{3, 1, api.Vec{one, one, one, 0}}, {3, 2, from}, {3, 3, from},
	} {
		for n := 1; n <= 4; n++ {
			var want api.Vec
			copy(want[:n], r.want[:n])
			paints(t, bare(fragment, 2, constant(0, from), constant(1, api.Vec{9, 9, 9, 9}), conv(1, 0, r.from, r.to, n), paint(1)), api.Env{}, want)
			paints(t, bare(fragment, 2, constant(0, from), conv(0, 0, r.from, r.to, n), paint(0)), api.Env{}, want)
			paints(t, bare(fragment, 2, constant(0, from), conv(1, 0, r.from, r.to, n), paint(0)), api.Env{}, from)
		}
	}
}

// pictures answers images: one that is complete, one that is not, two that may not be, and one of other modes.
func pictures() []api.Image {
	two := []api.Level{{W: 2, H: 1, Bytes: []byte{0, 255}}}
	return []api.Image{
		{Format: api.L8, Levels: two, WrapS: api.Clamp, WrapT: api.Clamp, Min: api.Linear, Mag: api.Linear},
		{Format: api.L8, Levels: two, WrapS: api.Clamp, WrapT: api.Clamp, Min: api.LinearMip, Mag: api.Linear},
		{Format: api.L8, Levels: []api.Level{{W: 2, H: 1, Bytes: []byte{255}}}, WrapS: api.Clamp, WrapT: api.Clamp, Min: api.Nearest, Mag: api.Nearest},
		{},
		{Format: api.RGBA8, Levels: []api.Level{{W: 1, H: 2, Bytes: []byte{255, 0, 0, 255, 0, 255, 0, 0}}}, WrapS: api.Repeat, WrapT: api.Repeat, Min: api.Linear, Mag: api.Nearest},
	}
}

// P18.1: OpTex, in both stages: the image that A's first number says, as a raw, at B's first two numbers, at lod 0; black, if there is none, or it is not complete, or may not be.
func TestTex(t *testing.T) {
	black := api.Vec{0, 0, 0, one}
	for _, r := range []struct {
		image, u, v api.Fix
		want        api.Vec
	}{
		{0, 32768, 0, api.Vec{32768, 32768, 32768, one}}, {0, 16384, 0, black}, {0, 49152, 0, numbers(1, 1, 1, 1)}, {0, api.Least, api.Most, black}, {0, api.Most, api.Least, numbers(1, 1, 1, 1)},
		{1, 49152, 0, black}, {2, 49152, 0, black}, {3, 49152, 0, black},
		{4, 0, 0, numbers(1, 0, 0, 1)}, {4, 0, 32767, numbers(1, 0, 0, 1)}, {4, 0, 32768, numbers(0, 1, 0, 0)}, {4, 7 * one, -1, numbers(0, 1, 0, 0)}, {4, 32768, one, numbers(1, 0, 0, 1)},
		{5, 0, 0, black}, {-1, 0, 0, black}, {api.Least, 0, 0, black}, {api.Most, 0, 0, black}, {one, 0, 0, black}, {4 * one, 0, 0, black},
	} {
		e := api.Env{Images: pictures()}
		start := []api.Instr{constant(0, api.Vec{r.image, 4, 4, 4}), constant(1, api.Vec{r.u, r.v, 77, -77}), constant(2, api.Vec{9, 9, 9, 9})}
		paints(t, bare(fragment, 3, append(slices.Clone(start), tex(2, 0, 1), paint(2))...), e, r.want)
		paints(t, bare(fragment, 3, append(slices.Clone(start), tex(0, 0, 1), paint(0))...), e, r.want)
		paints(t, bare(fragment, 3, append(slices.Clone(start), tex(1, 0, 1), paint(1))...), e, r.want)
		comes(t, bare(vertex, 3, append(slices.Clone(start), tex(2, 0, 1), store(api.ToPosition, 0, 2))...), e, api.Result{Position: r.want}, 0, 1, 2, 3, 4)
		paints(t, bare(fragment, 3, append(slices.Clone(start), tex(2, 0, 1), paint(2))...), api.Env{}, black)
	}
	// One register for both: the image 0 at (0, 49152), and one that was never set.
	paints(t, bare(fragment, 2, constant(0, api.Vec{0, 49152}), tex(1, 0, 0), paint(1)), api.Env{Images: pictures()}, black)
	paints(t, bare(fragment, 2, tex(1, 0, 0), paint(1)), api.Env{Images: pictures()[4:]}, numbers(1, 0, 0, 1))
}

// P18.1, P18.2: OpJump, to the next instruction, over others, to the end.
func TestJump(t *testing.T) {
	a, b := constant(0, api.Vec{1, 1, 1, 1}), constant(0, api.Vec{2, 2, 2, 2})
	comes(t, bare(fragment, 1, a, jump(2), b, paint(0)), api.Env{}, api.Result{Color: b.Imm}, 0, 1, 2, 3)
	comes(t, bare(fragment, 1, a, jump(3), b, paint(0)), api.Env{}, api.Result{Color: a.Imm}, 0, 1, 3)
	comes(t, bare(fragment, 1, a, jump(4), b, paint(0)), api.Env{}, api.Result{}, 0, 1)
	comes(t, bare(fragment, 1, a, paint(0), jump(5), b, paint(0)), api.Env{}, api.Result{Color: a.Imm}, 0, 1, 2)
	comes(t, bare(fragment, 1, a, paint(0), b, jump(4)), api.Env{}, api.Result{Color: a.Imm}, 0, 1, 2, 3)
	comes(t, bare(vertex, 1, jump(3), a, a, jump(5), a), api.Env{}, api.Result{}, 0, 3)
	comes(t, bare(vertex, 0, jump(1)), api.Env{}, api.Result{}, 0)
	comes(t, bare(vertex, 0, jump(1), jump(2), jump(3)), api.Env{}, api.Result{}, 0, 1, 2)
}

// P18.1, P18.2: OpZero asks whether B's first number is 0, and none of the others.
func TestZero(t *testing.T) {
	a, b := api.Vec{1, 1, 1, 1}, api.Vec{2, 2, 2, 2}
	for v, is := range map[api.Vec]bool{{}: true, {0, 1, 1, 1}: true, {0, 0, 0, api.Least}: true, {1}: false, {-1}: false, {one, 0, 0, 0}: false, {api.Least}: false, {api.Most, 1}: false, {one << 8}: false} {
		l := []api.Instr{constant(0, v), constant(1, a), zero(4, 0), constant(1, b), paint(1)}
		if is {
			comes(t, bare(fragment, 2, l...), api.Env{}, api.Result{Color: a}, 0, 1, 2, 4)
			l[2] = zero(5, 0)
			comes(t, bare(fragment, 2, l...), api.Env{}, api.Result{}, 0, 1, 2)
		} else {
			comes(t, bare(fragment, 2, l...), api.Env{}, api.Result{Color: b}, 0, 1, 2, 3, 4)
			l[2] = zero(5, 0)
			comes(t, bare(fragment, 2, l...), api.Env{}, api.Result{Color: b}, 0, 1, 2, 3, 4)
		}
		l[2] = zero(3, 0)
		comes(t, bare(fragment, 2, l...), api.Env{}, api.Result{Color: b}, 0, 1, 2, 3, 4)
	}
	// A register that was never set is 0.
	comes(t, bare(vertex, 1, zero(3, 0), constant(0, a), store(api.ToPosition, 0, 0)), api.Env{}, api.Result{}, 0)
	comes(t, bare(vertex, 1, zero(1, 0)), api.Env{}, api.Result{}, 0)
}

// P18.1, P18.2: OpDiscard at the beginning, within, behind jumps that are taken and not: there comes Discard alone.
func TestDiscard(t *testing.T) {
	a := constant(0, api.Vec{1, 1, 1, 1})
	gone := api.Result{Discard: true}
	comes(t, bare(fragment, 0, discard()), api.Env{}, gone, 0)
	comes(t, bare(fragment, 1, discard(), a, paint(0)), api.Env{}, gone, 0)
	comes(t, bare(fragment, 1, a, paint(0), discard()), api.Env{}, gone, 0, 1, 2)
	comes(t, bare(fragment, 1, a, paint(0), discard(), paint(0), discard()), api.Env{}, gone, 0, 1, 2)
	comes(t, bare(fragment, 1, a, jump(3), discard(), paint(0)), api.Env{}, api.Result{Color: a.Imm}, 0, 1, 3)
	comes(t, bare(fragment, 1, a, paint(0), jump(4), a, discard(), paint(0)), api.Env{}, gone, 0, 1, 2, 4)
	comes(t, bare(fragment, 1, a, zero(3, 0), discard(), paint(0)), api.Env{}, gone, 0, 1, 2)
	comes(t, bare(fragment, 2, a, zero(3, 1), discard(), paint(0)), api.Env{}, api.Result{Color: a.Imm}, 0, 1, 3)
	comes(t, bare(fragment, 2, a, paint(0), jump(4), discard()), api.Env{}, api.Result{Color: a.Imm}, 0, 1, 2)
	c := full(fragment, load(0, api.FromVarying, 1), paint(0), load(1, api.FromFront, 0), zero(5, 1), discard(), paint(1))
	e := around(c)
	comes(t, c, e, gone, 0, 1, 2, 3, 4)
	e.Front = false
	comes(t, c, e, api.Result{}, 0, 1, 2, 3, 5)
}

// P18.1: registers hold noughts till they are set; of a run before nothing is left.
func TestNeverSet(t *testing.T) {
	for r := range 6 {
		paints(t, bare(fragment, 6, paint(r)), api.Env{}, api.Vec{})
	}
	comes(t, bare(vertex, 2, store(api.ToPosition, 0, 0), store(api.ToSize, 0, 1)), api.Env{}, api.Result{}, 0, 1)
	vm.Run(bare(fragment, 2, constant(0, numbers(1, 1, 1, 1)), constant(1, numbers(2, 2, 2, 2)), paint(0)), api.Env{})
	paints(t, bare(fragment, 2, do(0, api.FnAdd, 1, 4, 0, 1), paint(0)), api.Env{}, api.Vec{})
	paints(t, bare(fragment, 2, do(0, api.FnCos, 1, 3, 1), paint(0)), api.Env{}, numbers(1, 1, 1))
}

// P18.1, P18.2, P18.4: as many instructions and registers as there can be, each of them used.
func TestGreatest(t *testing.T) {
	ones := api.Vec{1, 1, 1, 1}
	l := []api.Instr{constant(0, ones)}
	// Each one more than the one before, round and round through all other registers.
	for k := 1; k < api.MaxCode-1; k++ {
		l = append(l, do(1+k%(api.MaxRegs-1), api.FnAdd, api.BaseInt, 4, 1+(k-1)%(api.MaxRegs-1), 0))
	}
	const sum = api.MaxCode - 2
	l = append(l, paint(1+sum%(api.MaxRegs-1)))
	paints(t, bare(fragment, api.MaxRegs, l...), api.Env{}, api.Vec{sum, sum, sum, sum})
	refused(t, "one more", bare(fragment, api.MaxRegs, append(slices.Clone(l), paint(0))...), api.Env{}, api.ErrCode)
	refused(t, "one more register", bare(fragment, api.MaxRegs+1, l...), api.Env{}, api.ErrCode)
	// Jumps alone, one by one, and from the first one to the end.
	var jumps []api.Instr
	for k := range api.MaxCode {
		jumps = append(jumps, jump(k+1))
	}
	comes(t, bare(vertex, 0, jumps...), api.Env{}, api.Result{}, sequence(0, api.MaxCode-1)...)
	jumps[0] = jump(api.MaxCode)
	comes(t, bare(vertex, 0, jumps...), api.Env{}, api.Result{}, 0)
	jumps[0] = jump(api.MaxCode - 1)
	comes(t, bare(vertex, 0, jumps...), api.Env{}, api.Result{}, 0, api.MaxCode-1)
	comes(t, bare(fragment, api.MaxRegs), api.Env{}, api.Result{})
}
