package code_test

import (
	"slices"
	"strings"
	"testing"

	"paintbox/api"
	"paintbox/code"
)

// takes is the chapter's list of functions, from 1 on: how many arguments, of floats, ints, bools.
const takes = "1f 1f 1f 1f 1f 1f 1f 1f 1f 1f 1f " +
	"2f 2f 2f 2f 2f 3f 3f 2f 1f 2f - - " +
	"2fi 2fi 2fi 2fi 1fi 2fi 2fi 2fi 2fi 2fib 2fib 1b"

// wantArgs answers what the list says of a function and a Base.
func wantArgs(fn, base int) int {
	l := strings.Fields(takes)
	if fn < 1 || fn > len(l) || base < 1 || base > 3 || !strings.Contains(l[fn-1], "fib"[base-1:base]) {
		return 0
	}
	return int(l[fn-1][0] - '0')
}

// P16.2: every number from 0 to 36 and beyond with every Base, and Bases that are none.
func TestArgs(t *testing.T) {
	for _, fn := range append(far(), sequence(-40, 80)...) {
		for _, base := range append(far(), sequence(-5, 9)...) {
			if n := code.Args(fn, base); n != wantArgs(fn, base) {
				t.Errorf("Args(%d, %d): %d; want %d", fn, base, n, wantArgs(fn, base))
			}
		}
	}
	for _, r := range [][3]int{{17, 1, 3}, {33, 3, 2}, {35, 1, 0}, {22, 1, 0}, {0, 1, 0}, {36, 3, 0}, {35, 3, 1}, {28, 2, 1}, {28, 3, 0}, {24, 2, 2}, {12, 2, 0}, {23, 1, 0}} {
		if n := code.Args(r[0], r[1]); n != r[2] {
			t.Errorf("Args(%d, %d): %d; want %d", r[0], r[1], n, r[2])
		}
	}
}

// P16.2: what every Op reads and writes, in order; what else stands in it is not asked.
func TestReadsAndWrites(t *testing.T) {
	for _, r := range []struct {
		op     int
		reads  []int
		writes bool
	}{
		{api.OpConst, nil, true}, {api.OpMove, []int{21}, true}, {api.OpLoad, nil, true}, {api.OpStore, []int{22}, false}, {api.OpPick, []int{21}, true}, {api.OpPut, []int{21, 20}, true}, {api.OpConv, []int{21}, true}, {api.OpTex, []int{21, 22}, true}, {api.OpJump, nil, false}, {api.OpZero, []int{22}, false}, {api.OpDiscard, nil, false},
		{0, nil, false}, {13, nil, false}, {-1, nil, false}, {-5, nil, false}, {1<<32 + api.OpMove, nil, false},
	} {
		for _, n := range []int{-1, 0, 1, 4, 9} {
			for _, fn := range []int{-1, 0, 1, 17, 24} {
				i := api.Instr{Op: r.op, Fn: fn, Base: api.BaseFloat, N: n, Dst: 20, A: 21, B: 22, C: 23, Imm: api.Vec{1, 2, 3, 4}, Places: [4]int{9, 9, -9, 9}}
				wantTouched(t, i, r.reads, r.writes)
			}
		}
	}
}

// wantTouched asks what an instruction reads and writes.
func wantTouched(t *testing.T, i api.Instr, reads []int, writes bool) {
	t.Helper()
	if got := code.Reads(i); !slices.Equal(got, reads) {
		t.Errorf("Reads(%v): %v; want %v", i, got, reads)
	}
	dst := 0
	if writes {
		dst = i.Dst
	}
	if got, ok := code.Writes(i); got != dst || ok != writes {
		t.Errorf("Writes(%v): %d, %v; want %d, %v", i, got, ok, dst, writes)
	}
}

// P16.2: an OpDo reads as many as its function takes of its Base, whether it may be or not.
func TestReadsOfDo(t *testing.T) {
	for _, fn := range append(far(), sequence(-2, 40)...) {
		for _, base := range append(far(), sequence(-1, 6)...) {
			for _, n := range []int{0, 1, 4, 5} {
				i := api.Instr{Op: api.OpDo, Fn: fn, Base: base, N: n, Dst: -20, A: -21, B: 2000, C: 1 << 40}
				wantTouched(t, i, []int{-21, 2000, 1 << 40}[:wantArgs(fn, base)], true)
			}
		}
	}
}

// P16.2: registers that there are not, and the same one several times, are told as they stand.
func TestReadsAsTheyStand(t *testing.T) {
	for _, r := range far() {
		wantTouched(t, api.Instr{Op: api.OpMove, Dst: r, A: r}, []int{r}, true)
		wantTouched(t, api.Instr{Op: api.OpPut, Dst: r, A: r}, []int{r, r}, true)
		wantTouched(t, api.Instr{Op: api.OpTex, Dst: 0, A: r, B: r}, []int{r, r}, true)
		wantTouched(t, api.Instr{Op: api.OpDo, Fn: api.FnClamp, Base: api.BaseFloat, Dst: r, A: r, B: r, C: r}, []int{r, r, r}, true)
		wantTouched(t, api.Instr{Op: api.OpZero, Dst: r, A: 3, B: r}, []int{r}, false)
	}
}

// R3: what Reads answers is the caller's own.
func TestReadsIsNew(t *testing.T) {
	for op := range 14 {
		i := api.Instr{Op: op, Fn: api.FnMix, Base: api.BaseFloat, Dst: 1, A: 2, B: 3, C: 4}
		a, b := code.Reads(i), code.Reads(i)
		want := slices.Clone(b)
		for k := range a {
			a[k] = 77
		}
		if !slices.Equal(b, want) || !slices.Equal(code.Reads(i), want) {
			t.Errorf("Op %d: %v, %v", op, b, code.Reads(i))
		}
	}
}
