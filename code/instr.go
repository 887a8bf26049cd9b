package code

import (
	"slices"

	"paintbox/api"
)

// Args answers how many arguments a function takes of a base, or 0 if there is none such.
func Args(fn, base int) int {
	number := base == api.BaseFloat || base == api.BaseInt
	switch {
	case fn >= api.FnAbs && fn <= api.FnCross:
		if base == api.BaseFloat {
			return floatArgs(fn)
		}
	case fn == api.FnNeg:
		if number {
			return 1
		}
	case fn >= api.FnAdd && fn <= api.FnAtLeast:
		if number {
			return 2
		}
	case fn == api.FnSame || fn == api.FnOther:
		if isBase(base) {
			return 2
		}
	case fn == api.FnNot:
		if base == api.BaseBool {
			return 1
		}
	}
	return 0
}

// floatArgs answers how many arguments a function from FnAbs to FnCross takes.
func floatArgs(fn int) int {
	switch fn {
	case api.FnMin, api.FnMax, api.FnMod, api.FnPow, api.FnStep, api.FnDot, api.FnCross:
		return 2
	case api.FnMix, api.FnClamp:
		return 3
	}
	return 1
}

// Reads answers the registers that an instruction reads.
func Reads(i api.Instr) []int {
	switch i.Op {
	case api.OpMove, api.OpPick, api.OpConv:
		return []int{i.A}
	case api.OpStore, api.OpZero:
		return []int{i.B}
	case api.OpDo:
		return slices.Clone([]int{i.A, i.B, i.C}[:Args(i.Fn, i.Base)])
	case api.OpPut:
		return []int{i.A, i.Dst}
	case api.OpTex:
		return []int{i.A, i.B}
	}
	return nil
}

// Writes answers the register that an instruction writes, if it writes one.
func Writes(i api.Instr) (int, bool) {
	switch i.Op {
	case api.OpConst, api.OpMove, api.OpLoad, api.OpDo, api.OpPick, api.OpPut, api.OpConv, api.OpTex:
		return i.Dst, true
	}
	return 0, false
}

// just answers the instruction with those fields alone that count: one that has more is not the same.
func just(i api.Instr) api.Instr {
	switch i.Op {
	case api.OpConst:
		return api.Instr{Op: i.Op, Dst: i.Dst, Imm: i.Imm}
	case api.OpMove:
		return api.Instr{Op: i.Op, Dst: i.Dst, A: i.A}
	case api.OpLoad:
		return api.Instr{Op: i.Op, Dst: i.Dst, Fn: i.Fn, A: i.A}
	case api.OpStore:
		return api.Instr{Op: i.Op, Fn: i.Fn, A: i.A, B: i.B}
	case api.OpDo:
		return justDo(i)
	case api.OpPick, api.OpPut:
		return api.Instr{Op: i.Op, Dst: i.Dst, A: i.A, N: i.N, Places: firstPlaces(i)}
	case api.OpConv:
		return api.Instr{Op: i.Op, Dst: i.Dst, A: i.A, N: i.N, Base: i.Base, Fn: i.Fn}
	case api.OpTex:
		return api.Instr{Op: i.Op, Dst: i.Dst, A: i.A, B: i.B}
	case api.OpJump:
		return api.Instr{Op: i.Op, A: i.A}
	case api.OpZero:
		return api.Instr{Op: i.Op, A: i.A, B: i.B}
	}
	return api.Instr{Op: i.Op}
}

// justDo answers an OpDo with as many arguments as its function takes.
func justDo(i api.Instr) api.Instr {
	j := api.Instr{Op: i.Op, Dst: i.Dst, Fn: i.Fn, Base: i.Base, N: i.N}
	arguments := []*int{&j.A, &j.B, &j.C}
	for k, r := range Reads(i) {
		*arguments[k] = r
	}
	return j
}

// firstPlaces answers the places that count, and noughts behind. Whether N is a count is asked elsewhere.
func firstPlaces(i api.Instr) [4]int {
	var places [4]int
	for k := range places {
		if k < i.N {
			places[k] = i.Places[k]
		}
	}
	return places
}
