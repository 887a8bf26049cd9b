package vm

import (
	"slices"

	"paintbox/api"
	"paintbox/code"
	"paintbox/maths"
	"paintbox/vec"
)

// Do answers what a function does to the first n numbers of as many of a, b, c as it takes.
func Do(fn, base, n int, a, b, c api.Vec) (api.Vec, api.Errno) {
	if code.Args(fn, base) == 0 || !isCount(n) {
		return api.Vec{}, api.ErrArg
	}
	return done(fn, base, n, a, b, c), api.OK
}

// isCount tells whether n numbers can be asked of a vector.
func isCount(n int) bool {
	return n >= 1 && n <= len(api.Vec{})
}

// done answers what a function does of which there is one for the base.
func done(fn, base, n int, a, b, c api.Vec) api.Vec {
	switch fn {
	case api.FnLess:
		return truth(a[0] < b[0])
	case api.FnMore:
		return truth(a[0] > b[0])
	case api.FnAtMost:
		return truth(a[0] <= b[0])
	case api.FnAtLeast:
		return truth(a[0] >= b[0])
	case api.FnSame:
		return truth(slices.Equal(a[:n], b[:n]))
	case api.FnOther:
		return truth(!slices.Equal(a[:n], b[:n]))
	case api.FnNot:
		return truth(a[0] == 0)
	}
	if base == api.BaseInt {
		return ofInts(fn, n, a, b)
	}
	return ofFloats(fn, n, a, b, c)
}

// ofInts answers what a function does to whole numbers. What passes 32 bits falls away, as it does in Go.
func ofInts(fn, n int, a, b api.Vec) api.Vec {
	switch fn {
	case api.FnAdd:
		return byTwo(n, a, b, func(x, y api.Fix) api.Fix { return x + y })
	case api.FnSub:
		return byTwo(n, a, b, func(x, y api.Fix) api.Fix { return x - y })
	case api.FnMul:
		return byTwo(n, a, b, func(x, y api.Fix) api.Fix { return x * y })
	case api.FnDiv:
		return byTwo(n, a, b, quotient)
	}
	return byOne(n, a, func(x api.Fix) api.Fix { return -x })
}

// ofFloats answers what a function does to floats, if it takes them as a whole; else it asks on.
func ofFloats(fn, n int, a, b, c api.Vec) api.Vec {
	var v api.Vec
	switch fn {
	case api.FnMix:
		v, _ = vec.Mix(n, a, b, c)
	case api.FnClamp:
		v, _ = vec.Clamp(n, a, b, c)
	case api.FnDot:
		v[0], _ = vec.Dot(n, a, b)
	case api.FnLength:
		v[0] = maths.Length(a, n)
	case api.FnCross:
		v = vec.Cross(a, b)
	case api.FnNormalize:
		v = maths.Normalize(a, n)
	default:
		return byComponent(fn, n, a, b)
	}
	return v
}

// byComponent answers what a function does to floats that vec has for two or one by component; else it asks on.
func byComponent(fn, n int, a, b api.Vec) api.Vec {
	if op, is := ofTwo(fn); is {
		v, _ := vec.Two(op, n, a, b)
		return v
	}
	if op, is := ofOne(fn); is {
		v, _ := vec.One(op, n, a)
		return v
	}
	return ofMaths(fn, n, a, b)
}

// ofTwo answers vec's operation of two that a function is, if it is one.
func ofTwo(fn int) (op int, is bool) {
	switch fn {
	case api.FnAdd:
		return api.VecAdd, true
	case api.FnSub:
		return api.VecSub, true
	case api.FnMul:
		return api.VecMul, true
	case api.FnDiv:
		return api.VecDiv, true
	case api.FnMin:
		return api.VecMin, true
	case api.FnMax:
		return api.VecMax, true
	case api.FnMod:
		return api.VecMod, true
	case api.FnStep:
		return api.VecStep, true
	}
	return 0, false
}

// ofOne answers vec's operation of one that a function is, if it is one.
func ofOne(fn int) (op int, is bool) {
	switch fn {
	case api.FnNeg:
		return api.VecNeg, true
	case api.FnAbs:
		return api.VecAbs, true
	case api.FnSign:
		return api.VecSign, true
	case api.FnFloor:
		return api.VecFloor, true
	case api.FnFract:
		return api.VecFract, true
	}
	return 0, false
}

// ofMaths answers what a function does to floats that maths has for single numbers.
func ofMaths(fn, n int, a, b api.Vec) api.Vec {
	switch fn {
	case api.FnSqrt:
		return byOne(n, a, maths.Sqrt)
	case api.FnInvSqrt:
		return byOne(n, a, maths.InvSqrt)
	case api.FnExp2:
		return byOne(n, a, maths.Exp2)
	case api.FnLog2:
		return byOne(n, a, maths.Log2)
	case api.FnSin:
		return byOne(n, a, maths.Sin)
	case api.FnCos:
		return byOne(n, a, maths.Cos)
	}
	return byTwo(n, a, b, maths.Pow)
}

// byOne does the same to each of the first n numbers; noughts behind.
func byOne(n int, a api.Vec, do func(x api.Fix) api.Fix) api.Vec {
	for i := range n {
		a[i] = do(a[i])
	}
	clear(a[n:])
	return a
}

// byTwo does the same to both first numbers, to both second ones, and so on up to n; noughts behind.
func byTwo(n int, a, b api.Vec, do func(x, y api.Fix) api.Fix) api.Vec {
	for i := range n {
		a[i] = do(a[i], b[i])
	}
	clear(a[n:])
	return a
}

// quotient answers how often y goes into x, rounded towards 0; 0 of y being 0.
func quotient(x, y api.Fix) api.Fix {
	if y == 0 {
		return 0
	}
	return x / y
}

// truth answers the bool of what holds or does not.
func truth(holds bool) api.Vec {
	if holds {
		return api.Vec{1}
	}
	return api.Vec{}
}
