package tri

import (
	"math/bits"

	"paintbox/api"
	"paintbox/fix"
)

// wide is a whole number from 0 on, below 2^128, in two words.
type wide struct {
	high, low uint64
}

// product answers a times b.
func product(a, b uint64) wide {
	high, low := bits.Mul64(a, b)
	return wide{high, low}
}

// plus answers a and b together.
func (a wide) plus(b wide) wide {
	low, carry := bits.Add64(a.low, b.low, 0)
	high, _ := bits.Add64(a.high, b.high, carry)
	return wide{high, low}
}

// less answers a less b, which is not above a.
func (a wide) less(b wide) wide {
	low, carry := bits.Sub64(a.low, b.low, 0)
	high, _ := bits.Sub64(a.high, b.high, carry)
	return wide{high, low}
}

// times answers a times n.
func (a wide) times(n uint64) wide {
	high, low := bits.Mul64(a.low, n)
	return wide{high + a.high*n, low}
}

// below says whether a is less than b.
func (a wide) below(b wide) bool {
	return a.high < b.high || a.high == b.high && a.low < b.low
}

// up answers a times 2^n, n being less than 64.
func (a wide) up(n int) wide {
	return wide{a.high<<n | a.low>>(64-n), a.low << n}
}

// over answers the nearest whole number to a over b, the greater one of both that are as near; it is below 2^32, and b below 2^95.
func (a wide) over(b wide) int64 {
	// Rounded down, (2a + b) / 2b is the nearest one to a / b.
	rest, part := a.plus(a).plus(b), b.plus(b)
	var n int64
	for i := 31; i >= 0; i-- {
		if p := part.up(i); !rest.below(p) {
			rest, n = rest.less(p), n|1<<i
		}
	}
	return n
}

// vars answers the Vars at a centre: what is nearer counts more, so that they go evenly over what is seen.
func (t turned) vars(weights [3]int) []api.Vec {
	var shares [3]wide
	var all wide
	for i := range shares {
		p, q := t.corners[(i+1)%3], t.corners[(i+2)%3]
		shares[i] = product(uint64(weights[i]), uint64(p.W)*uint64(q.W))
		all = all.plus(shares[i])
	}
	var l []api.Vec
	for k := range t.corners[0].Vars {
		var v api.Vec
		for n := range v {
			v[n] = share([3]api.Fix{t.corners[0].Vars[k][n], t.corners[1].Vars[k][n], t.corners[2].Vars[k][n]}, shares, all)
		}
		l = append(l, v)
	}
	return l
}

// share answers what stands between three numbers, each of which counts by its share of all. A share has at most 90 bits, its product with a number 121; what is below 0 is summed by itself, for a wide has no sign.
func share(l [3]api.Fix, shares [3]wide, all wide) api.Fix {
	var above, below wide
	for i, n := range l {
		if n < 0 {
			below = below.plus(shares[i].times(uint64(-int64(n))))
		} else {
			above = above.plus(shares[i].times(uint64(n)))
		}
	}
	if above.below(below) {
		return fix.Raw(-below.less(above).over(all))
	}
	return fix.Raw(above.less(below).over(all))
}
