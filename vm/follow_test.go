package vm_test

import (
	"fmt"
	"slices"
	"testing"

	"paintbox/api"
	"paintbox/code"
	"paintbox/vm"
)

// chanceCodes tells chance codes, each with surroundings that fit it.
func chanceCodes(from chance, n, most int, see func(c *chance, x api.Code, e api.Env)) {
	for range n {
		x := from.code(most)
		see(&from, x, from.surroundings(x))
	}
}

// goes answers what comes of a code, and by which places; once it is sure that Run and Trace take it.
func goes(t *testing.T, c api.Code, e api.Env) (api.Result, []int) {
	t.Helper()
	x, err := vm.Run(c, e)
	l, wrong := vm.Trace(c, e)
	if err != api.OK || wrong != api.OK || !vm.Fits(c, e) {
		t.Fatalf("%v: %d, %d, %v", c, err, wrong, vm.Fits(c, e))
	}
	return x, l
}

// P18.1, P18.2: chance codes of both stages, held against what the chapters say a second time; each Op is done often.
func TestChanceCodes(t *testing.T) {
	done := map[int]int{}
	told := map[string]int{}
	chanceCodes(1, 20000, 40, func(_ *chance, c api.Code, e api.Env) {
		want, places := obeyed(t, c, e)
		comes(t, c, e, want, places...)
		for _, k := range places {
			done[c.Instrs[k].Op]++
		}
		switch {
		case want.Discard:
			told["discarded"]++
		case want.Color != api.Vec{}:
			told["painted"]++
		case want.Position != api.Vec{}:
			told["placed"]++
		}
	})
	for op := 1; op <= 12; op++ {
		if done[op] < 1000 {
			t.Errorf("Op %d is done %d times", op, done[op])
		}
	}
	for _, what := range []string{"discarded", "painted", "placed"} {
		if told[what] < 1000 {
			t.Errorf("%s: %d times", what, told[what])
		}
	}
}

// P18.2, P18.4: places rise, each at most once; each one is where the one ahead of it leads, and can be come to; the last one leads to the end, or is a discard.
func TestPlacesRise(t *testing.T) {
	chanceCodes(2, 5000, 30, func(_ *chance, c api.Code, e api.Env) {
		x, places := goes(t, c, e)
		reach := code.Reach(c)
		n := len(c.Instrs)
		if len(places) > n || (n > 0) != (len(places) > 0) {
			t.Fatalf("%v of %d", places, n)
		}
		ends := false
		next := []int{0}
		for k, at := range places {
			i := c.Instrs[at]
			if k > 0 && at <= places[k-1] || !slices.Contains(next, at) || !reach[at] || ends {
				t.Fatalf("%v\n%v", c.Instrs, places)
			}
			next = []int{at + 1}
			switch i.Op {
			case api.OpJump:
				next = []int{i.A}
			case api.OpZero:
				next = []int{i.A, at + 1}
			case api.OpDiscard:
				ends = true
			}
		}
		if x.Discard != ends || !ends && !slices.Contains(next, n) {
			t.Fatalf("%v\n%v", c.Instrs, places)
		}
	})
}

// P18.4: what a run tells hangs on what it loads, and on images if it asks for a texture, and on nothing beside.
func TestHangsOn(t *testing.T) {
	kept, moved := 0, 0
	chanceCodes(3, 5000, 20, func(r *chance, c api.Code, e api.Env) {
		x, places := goes(t, c, e)
		f := r.surroundings(c)
		for _, k := range places {
			i := c.Instrs[k]
			switch i.Op {
			case api.OpTex:
				f.Images = e.Images
			case api.OpLoad:
				keep(i, &f, e)
			}
		}
		if y, l := goes(t, c, f); !alike(x, y) || !slices.Equal(places, l) {
			t.Fatalf("%v\n%v: %v\n%v: %v", c.Instrs, e, x, f, y)
		}
		kept++
		if y, _ := goes(t, c, r.surroundings(c)); !alike(x, y) {
			moved++
		}
	})
	if kept != 5000 || moved < 500 {
		t.Error(kept, moved)
	}
}

// keep lays what an OpLoad comes to in e into f.
func keep(i api.Instr, f *api.Env, e api.Env) {
	switch i.Fn {
	case api.FromAttrib:
		f.Attribs[i.A] = e.Attribs[i.A]
	case api.FromUniform:
		f.Uniforms[i.A] = e.Uniforms[i.A]
	case api.FromVarying:
		f.Varyings[i.A] = e.Varyings[i.A]
	case api.FromCoord:
		f.Coord = e.Coord
	case api.FromFront:
		f.Front = e.Front
	case api.FromPoint:
		copy(f.Point[:2], e.Point[:2])
	}
}

// P18.4: registers that no instruction reads play no part: what writes them may be anything, and there may be more of them.
func TestUnread(t *testing.T) {
	changed := 0
	chanceCodes(4, 5000, 12, func(r *chance, c api.Code, e api.Env) {
		x, places := goes(t, c, e)
		read := map[int]int{}
		for _, i := range c.Instrs {
			for _, k := range code.Reads(i) {
				read[k]++
			}
		}
		d := c
		d.Regs += 1 + r.below(5)
		d.Instrs = slices.Clone(c.Instrs)
		for k, i := range d.Instrs {
			if dst, writes := code.Writes(i); writes && read[dst] == 0 {
				d.Instrs[k] = constant(c.Regs+r.below(d.Regs-c.Regs), r.vector())
				changed++
			}
		}
		if y, l := goes(t, d, e); !alike(x, y) || !slices.Equal(places, l) {
			t.Fatalf("%v: %v, %v\n%v: %v, %v", c.Instrs, x, places, d.Instrs, y, l)
		}
	})
	if changed < 2000 {
		t.Error(changed)
	}
}

// P18.4: which number a register has plays no part.
func TestRenamed(t *testing.T) {
	chanceCodes(5, 3000, 20, func(r *chance, c api.Code, e api.Env) {
		x, places := goes(t, c, e)
		d := c
		d.Regs = api.MaxRegs
		d.Instrs = slices.Clone(c.Instrs)
		shift := r.below(api.MaxRegs - c.Regs + 1)
		for k := range d.Instrs {
			i := &d.Instrs[k]
			_, writes := code.Writes(*i)
			for _, f := range reading(i) {
				*f += shift
			}
			if writes {
				i.Dst += shift
			}
		}
		if y, l := goes(t, d, e); !alike(x, y) || !slices.Equal(places, l) {
			t.Fatalf("%v: %v, %v\n%v: %v, %v", c.Instrs, x, places, d.Instrs, y, l)
		}
	})
}

// reading answers the fields that name registers which an instruction reads, but for Dst.
func reading(i *api.Instr) []*int {
	switch i.Op {
	case api.OpMove, api.OpPick, api.OpPut, api.OpConv:
		return []*int{&i.A}
	case api.OpStore, api.OpZero:
		return []*int{&i.B}
	case api.OpTex:
		return []*int{&i.A, &i.B}
	case api.OpDo:
		return []*int{&i.A, &i.B, &i.C}[:code.Args(i.Fn, i.Base)]
	}
	return nil
}

// P18.1, P18.2: surroundings that do not fit, of chance codes: one too few or too many of a list; and codes with an instruction that may not be.
func TestChanceRefused(t *testing.T) {
	chanceCodes(6, 500, 10, func(r *chance, c api.Code, e api.Env) {
		for k := range 3 {
			few, many := e, e
			for by, f := range map[int]*api.Env{-1: &few, 1: &many} {
				l := []*[]api.Vec{&f.Attribs, &f.Uniforms, &f.Varyings}[k]
				if by > 0 {
					*l = append(slices.Clone(*l), r.vector())
				} else if len(*l) > 0 {
					*l = (*l)[1:]
				} else {
					continue
				}
				refused(t, "a list", c, *f, api.ErrArg)
			}
		}
		wrong := c
		wrong.Instrs = slices.Insert(slices.Clone(c.Instrs), r.below(len(c.Instrs)+1), api.Instr{Op: 13})
		refused(t, "an instruction", wrong, e, api.ErrCode)
		refused(t, "an instruction, and nothing handed in", wrong, api.Env{}, api.ErrCode)
	})
}

// P18.1, P18.2: the same comes again, whatever was run in between.
func TestSameAgain(t *testing.T) {
	chanceCodes(7, 1000, 20, func(r *chance, c api.Code, e api.Env) {
		x, places := goes(t, c, e)
		between := r.code(20)
		goes(t, between, r.surroundings(between))
		if y, l := goes(t, c, e); !vm.Same(x, y) || !alike(x, y) || !slices.Equal(places, l) {
			t.Fatalf("%v: %v, %v; then %v, %v", c.Instrs, x, places, y, l)
		}
	})
}

// roomy answers a list with room behind its end, and a mark there.
func roomy[T any](l []T, mark T) []T {
	return append(slices.Clone(l), mark)[:len(l)]
}

// P18.1, P18.2: what is handed in is not changed, nor the room behind a list's end.
func TestNotChanged(t *testing.T) {
	chanceCodes(8, 1000, 20, func(_ *chance, c api.Code, e api.Env) {
		first := fmt.Sprint(c, e)
		c.Instrs = roomy(c.Instrs, api.Instr{Op: 77})
		e.Attribs, e.Uniforms, e.Varyings = roomy(e.Attribs, api.Vec{77}), roomy(e.Uniforms, api.Vec{77}), roomy(e.Varyings, api.Vec{77})
		e.Images = roomy(e.Images, api.Image{Format: 77})
		goes(t, c, e)
		if fmt.Sprint(c, e) != first {
			t.Fatalf("%s\nhas become\n%v %v", first, c, e)
		}
		behind := []api.Vec{e.Attribs[:cap(e.Attribs)][len(e.Attribs)], e.Uniforms[:cap(e.Uniforms)][len(e.Uniforms)], e.Varyings[:cap(e.Varyings)][len(e.Varyings)]}
		if slices.ContainsFunc(behind, func(v api.Vec) bool { return v != api.Vec{77} }) || c.Instrs[:cap(c.Instrs)][len(c.Instrs)].Op != 77 || e.Images[:cap(e.Images)][len(e.Images)].Format != 77 {
			t.Fatal("the room behind a list's end has changed")
		}
	})
}

// P18.1, P18.2: what is answered is new memory, and does not change with what was handed in.
func TestNewMemory(t *testing.T) {
	chanceCodes(9, 1000, 20, func(_ *chance, c api.Code, e api.Env) {
		x, l := goes(t, c, e)
		y, m := goes(t, c, e)
		first := fmt.Sprint(x, l)
		for k := range y.Varyings {
			y.Varyings[k] = api.Vec{77}
		}
		for k := range m {
			m[k] = 77
		}
		clear(c.Instrs)
		for _, list := range [][]api.Vec{e.Attribs, e.Uniforms, e.Varyings} {
			for k := range list {
				list[k] = api.Vec{78, 78, 78, 78}
			}
		}
		if fmt.Sprint(x, l) != first {
			t.Fatalf("%s\nhas become\n%v %v", first, x, l)
		}
	})
}
