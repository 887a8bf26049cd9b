package vm

import (
	"paintbox/api"
	"paintbox/fix"
)

// Convert answers the first n numbers of a vector of one base as numbers of another one.
func Convert(from, to, n int, a api.Vec) (api.Vec, api.Errno) {
	if !isBase(from) || !isBase(to) || !isCount(n) {
		return api.Vec{}, api.ErrArg
	}
	return converted(from, to, n, a), api.OK
}

// isBase tells whether numbers in registers can be of this base.
func isBase(base int) bool {
	return base == api.BaseFloat || base == api.BaseInt || base == api.BaseBool
}

// converted answers the first n numbers, from one base to another that there are; noughts behind.
func converted(from, to, n int, a api.Vec) api.Vec {
	return byOne(n, a, conversion(from, to))
}

// conversion answers what makes a number of one base one of another.
func conversion(from, to int) func(x api.Fix) api.Fix {
	switch {
	case from == to, from == api.BaseBool && to == api.BaseInt:
		return func(x api.Fix) api.Fix { return x }
	case to == api.BaseBool:
		return func(x api.Fix) api.Fix { return truth(x != 0)[0] }
	case to == api.BaseInt:
		// Go's quotient goes towards 0, as the whole part does.
		return func(x api.Fix) api.Fix { return x / api.One }
	case from == api.BaseInt:
		return func(x api.Fix) api.Fix { return fix.Of(int(x)) }
	}
	return func(x api.Fix) api.Fix { return fix.Of(int(truth(x != 0)[0])) }
}
