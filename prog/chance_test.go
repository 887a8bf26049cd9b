package prog_test

import "paintbox/api"

// chance tells numbers that look like chance, and are always the same.
type chance uint64

func (c *chance) below(n int) int {
	*c = *c*6364136223846793005 + 1442695040888963407
	return int(uint64(*c)>>33) % n
}

// yes tells true once out of n times.
func (c *chance) yes(n int) bool { return c.below(n) == 0 }

// of answers one of these.
func (c *chance) of(l ...string) string { return l[c.below(len(l))] }

// raw answers a raw: a small one, one of a few bits, or any.
func (c *chance) raw() api.Fix {
	switch c.below(4) {
	case 0:
		return api.Fix(c.below(7) - 2)
	case 1, 2:
		return api.Fix(c.below(1<<20) - 1<<19)
	}
	return api.Fix(int32(c.below(1<<31)<<1 | c.below(2)))
}

// vector answers a vector of four such raws.
func (c *chance) vector() api.Vec { return api.Vec{c.raw(), c.raw(), c.raw(), c.raw()} }

// vectors answers n such vectors.
func (c *chance) vectors(n int) []api.Vec {
	l := make([]api.Vec, n)
	for i := range l {
		l[i] = c.vector()
	}
	return l
}

// shuffled answers the things of a list in another order.
func shuffled[T any](c *chance, l []T) []T {
	x := append([]T(nil), l...)
	for i := range x {
		k := i + c.below(len(x)-i)
		x[i], x[k] = x[k], x[i]
	}
	return x
}
