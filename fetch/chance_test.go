package fetch_test

import "paintbox/api"

// chance tells numbers that look like chance, and are always the same.
type chance uint64

func (c *chance) below(n int) int {
	*c = *c*6364136223846793005 + 1442695040888963407
	return int(uint64(*c)>>33) % n
}

// bytes answers n bytes; many lie at an end of what a number can be.
func (c *chance) bytes(n int) []byte {
	b := make([]byte, n)
	for i := range b {
		switch c.below(4) {
		case 0:
			b[i] = byte(0x7F + c.below(3))
		case 1:
			b[i] = byte(c.below(3) - 1)
		default:
			b[i] = byte(c.below(256))
		}
	}
	return b
}

// array answers an array that may be, with a small offset.
func (c *chance) array() api.Array {
	return api.Array{Size: 1 + c.below(4), Kind: api.KindByte + c.below(5), Normalized: c.below(2) == 0, Stride: c.below(20), Offset: c.below(12)}
}

// spoilt answers a number that lies near a limit, or far from all.
func (c *chance) spoilt() int {
	l := []int{-1 << 63, -1 << 31, -65536, -1, 0, 1, 2, 3, 4, 5, 6, 7, 255, 256, 257, 65535, 65536, api.MaxBytes, api.MaxBytes + 1, 1 << 31, 1<<63 - 1}
	return l[c.below(len(l))]
}
