package code

import (
	"iter"
	"slices"

	"paintbox/api"
	"paintbox/octet"
)

// mark is the number that a code's bytes begin with.
const mark = 1128353872

// The numbers ahead of the instructions, in their order, and how many they are.
const (
	headMark = iota
	headStage
	headRegs
	headAttribs
	headUniforms
	headVaryings
	headCount
	headNumbers
)

// The numbers of an instruction, in their order; of Imm and of Places there are four.
const (
	instrOp = iota
	instrFn
	instrBase
	instrN
	instrDst
	instrA
	instrB
	instrC
	instrImm
	instrPlaces  = instrImm + len(api.Vec{})
	instrNumbers = instrPlaces + len(api.Instr{}.Places)
)

// numberBytes is how many bytes a number has.
const numberBytes = 4

// Encode answers the bytes of a code.
func Encode(c api.Code) ([]byte, api.Errno) {
	if !mayBe(c) {
		return nil, api.ErrCode
	}
	b := make([]byte, 0, (headNumbers+instrNumbers*len(c.Instrs))*numberBytes)
	for x := range numbersOf(c) {
		b = append(b, octet.Put32(nil, x)...)
	}
	return b, api.OK
}

// numbersOf tells the numbers of a code, in the order of its bytes.
func numbersOf(c api.Code) iter.Seq[uint32] {
	return func(yield func(uint32) bool) {
		for _, x := range headOf(c) {
			if !yield(uint32(x)) {
				return
			}
		}
		for _, i := range c.Instrs {
			for _, x := range instrOf(i) {
				if !yield(uint32(x)) {
					return
				}
			}
		}
	}
}

// headOf answers the numbers ahead of a code's instructions.
func headOf(c api.Code) [headNumbers]int {
	return [headNumbers]int{
		headMark:     mark,
		headStage:    c.Stage,
		headRegs:     c.Regs,
		headAttribs:  c.Attribs,
		headUniforms: c.Uniforms,
		headVaryings: c.Varyings,
		headCount:    len(c.Instrs),
	}
}

// instrOf answers the numbers of an instruction.
func instrOf(i api.Instr) [instrNumbers]int {
	row := [instrNumbers]int{
		instrOp:   i.Op,
		instrFn:   i.Fn,
		instrBase: i.Base,
		instrN:    i.N,
		instrDst:  i.Dst,
		instrA:    i.A,
		instrB:    i.B,
		instrC:    i.C,
	}
	for k, x := range i.Imm {
		row[instrImm+k] = int(x)
	}
	copy(row[instrPlaces:], i.Places[:])
	return row
}

// Decode answers the code whose bytes these are.
func Decode(b []byte) (api.Code, api.Errno) {
	if len(b) > (headNumbers+instrNumbers*api.MaxCode)*numberBytes {
		return api.Code{}, api.ErrBytes
	}
	r := octet.Read(b)
	var head [headNumbers]int
	for k := range head {
		head[k] = int(r.U32())
	}
	c := codeOf(head)
	for i := range instrsIn(r) {
		c.Instrs = append(c.Instrs, i)
	}
	// A number that was cut short, or is missing, is seen by the Reader's error; a wrong first number or count by the head of what was read.
	if r.Err() != api.OK || headOf(c) != head || !mayBe(c) {
		return api.Code{}, api.ErrBytes
	}
	return c, api.OK
}

// codeOf answers a code with this head, as yet without instructions.
func codeOf(head [headNumbers]int) api.Code {
	return api.Code{
		Stage:    head[headStage],
		Regs:     head[headRegs],
		Attribs:  head[headAttribs],
		Uniforms: head[headUniforms],
		Varyings: head[headVaryings],
	}
}

// instrsIn tells instructions as long as bytes are left, of which the last ones may be too few.
func instrsIn(r *octet.Reader) iter.Seq[api.Instr] {
	return func(yield func(api.Instr) bool) {
		for r.Left() > 0 && r.Err() == api.OK {
			if !yield(instrIn(r)) {
				return
			}
		}
	}
}

// instrIn answers the next instruction of the bytes.
func instrIn(r *octet.Reader) api.Instr {
	var row [instrNumbers]uint32
	for k := range row {
		row[k] = r.U32()
	}
	i := api.Instr{
		Op:   int(row[instrOp]),
		Fn:   int(row[instrFn]),
		Base: int(row[instrBase]),
		N:    int(row[instrN]),
		Dst:  int(row[instrDst]),
		A:    int(row[instrA]),
		B:    int(row[instrB]),
		C:    int(row[instrC]),
	}
	for k := range i.Imm {
		i.Imm[k] = api.Fix(int32(row[instrImm+k]))
	}
	for k := range i.Places {
		i.Places[k] = int(row[instrPlaces+k])
	}
	return i
}

// Same tells whether two codes are the same, field by field.
func Same(a, b api.Code) bool {
	return headOf(a) == headOf(b) && slices.Equal(a.Instrs, b.Instrs)
}
