package code

import "paintbox/api"

// Reach answers for each place of a code, and for the one behind its last instruction, whether it can be come to.
func Reach(c api.Code) []bool {
	if !mayBe(c) {
		return nil
	}
	come := make([]bool, len(c.Instrs)+1)
	come[0] = true
	for k, i := range c.Instrs {
		// Jumps go forward alone, so nothing that is still ahead can lead to k.
		if !come[k] {
			continue
		}
		for _, to := range next(i, k) {
			come[to] = true
		}
	}
	return come
}

// next answers the places that the instruction at the place k leads to.
func next(i api.Instr, k int) []int {
	switch i.Op {
	case api.OpJump:
		return []int{i.A}
	case api.OpZero:
		return []int{i.A, k + 1}
	case api.OpDiscard:
		return nil
	}
	return []int{k + 1}
}
