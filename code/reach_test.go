package code_test

import (
	"slices"
	"testing"

	"paintbox/api"
	"paintbox/code"
)

// Short forms of what leads somewhere.
func jump(to int) api.Instr { return api.Instr{Op: api.OpJump, A: to} }
func zero(to int) api.Instr { return api.Instr{Op: api.OpZero, A: to} }

var (
	plain   = api.Instr{Op: api.OpConst}
	discard = api.Instr{Op: api.OpDiscard}
)

// wantReach asks which places can be come to, written as a text of 1s and 0s.
func wantReach(t *testing.T, c api.Code, want string) {
	t.Helper()
	got := ""
	for _, x := range code.Reach(c) {
		got += map[bool]string{true: "1", false: "0"}[x]
	}
	if got != want {
		t.Errorf("Reach of %v: %s; want %s", c.Instrs, got, want)
	}
}

// P16.3: codes of none, one and more instructions; behind a jump, behind a discard, places that nobody jumps to, the end.
func TestReach(t *testing.T) {
	for _, r := range []struct {
		want string
		l    []api.Instr
	}{
		{"1", nil},
		{"11", []api.Instr{plain}},
		{"11", []api.Instr{jump(1)}},
		{"11", []api.Instr{zero(1)}},
		{"10", []api.Instr{discard}},
		{"101", []api.Instr{jump(2), plain}},
		{"111", []api.Instr{jump(1), plain}},
		{"111", []api.Instr{zero(2), plain}},
		{"110", []api.Instr{plain, discard}},
		{"100", []api.Instr{discard, plain}},
		{"100", []api.Instr{discard, jump(2)}},
		{"1101", []api.Instr{zero(3), discard, plain}},
		{"1101", []api.Instr{plain, jump(3), plain}},
		{"1110", []api.Instr{zero(2), discard, discard}},
		{"1001", []api.Instr{jump(3), jump(2), plain}},
		{"10011", []api.Instr{jump(3), zero(2), plain, plain}},
		{"11111", []api.Instr{zero(3), plain, plain, plain}},
		{"11011", []api.Instr{zero(3), jump(4), plain, plain}},
		{"111011", []api.Instr{zero(2), jump(4), jump(5), plain, plain}},
		{"1100010", []api.Instr{plain, jump(5), plain, plain, jump(6), discard}},
	} {
		wantReach(t, bare(fragment, 1, r.l...), r.want)
	}
}

// P16.3: all other Ops lead to the next place.
func TestReachGoesOn(t *testing.T) {
	for _, i := range []api.Instr{
		{Op: api.OpConst}, {Op: api.OpMove}, {Op: api.OpLoad, Fn: api.FromUniform}, {Op: api.OpStore, Fn: api.ToColor},
		{Op: api.OpDo, Fn: api.FnAbs, Base: 1, N: 1}, {Op: api.OpPick, N: 1}, {Op: api.OpPut, N: 1}, {Op: api.OpConv, N: 1, Base: 1, Fn: 1}, {Op: api.OpTex},
	} {
		wantReach(t, full(fragment, i, i), "111")
		i.Dst, i.A = 0, 0
		wantReach(t, full(fragment, jump(2), i, i), "1011")
	}
}

// P16.3: nothing of codes that may not be.
func TestReachOfNone(t *testing.T) {
	for _, c := range []api.Code{{}, bare(3, 1), bare(vertex, -1), bare(vertex, 1, discard), bare(fragment, 1, jump(0)), bare(fragment, 1, jump(2)), bare(fragment, 0, plain), bare(fragment, 1, plain, api.Instr{}), bare(vertex, 1, alike(4097, plain)...)} {
		if r := code.Reach(c); r != nil {
			t.Errorf("%v of a code that may not be", r)
		}
	}
}

// P16.3, P16.5: chance codes, held against a walk from 0 that comes to each place by at most n steps.
func TestReachChance(t *testing.T) {
	c := chance(3)
	for range 3000 {
		n := c.below(12)
		var l []api.Instr
		for k := range n {
			to := k + 1 + c.below(n-k)
			l = append(l, []api.Instr{plain, jump(to), zero(to), discard, plain, zero(to)}[c.below(6)])
		}
		x := bare(fragment, 1, l...)
		if got, want := code.Reach(x), walked(x); !slices.Equal(got, want) {
			t.Fatalf("%v: %v; want %v", l, got, want)
		}
	}
}

// walked answers which places a walk from 0 comes to, all at once, step by step.
func walked(c api.Code) []bool {
	n := len(c.Instrs)
	come := make([]bool, n+1)
	front := []int{0}
	for range n + 1 {
		var on []int
		for _, k := range front {
			come[k] = true
			if k == n {
				continue
			}
			switch i := c.Instrs[k]; i.Op {
			case api.OpDiscard:
			case api.OpJump:
				on = append(on, i.A)
			case api.OpZero:
				on = append(on, i.A, k+1)
			default:
				on = append(on, k+1)
			}
		}
		slices.Sort(on)
		front = slices.Compact(on)
	}
	if len(front) > 0 {
		panic("a walk of more than n steps")
	}
	return come
}

// P16.3: a code of the greatest length, all of jumps by two.
func TestReachLong(t *testing.T) {
	l := alike(4096, plain)
	for k := range 4095 {
		l[k] = jump(k + 2)
	}
	r := code.Reach(bare(vertex, 1, l...))
	for k, x := range r {
		if x != (k%2 == 0) {
			t.Fatalf("the place %d: %v", k, x)
		}
	}
	if len(r) != 4097 {
		t.Errorf("%d places", len(r))
	}
}

// R3: what Reach answers is the caller's own.
func TestReachIsNew(t *testing.T) {
	x := bare(vertex, 1, plain, plain)
	r := code.Reach(x)
	r[0], r[1] = false, false
	wantReach(t, x, "111")
}
