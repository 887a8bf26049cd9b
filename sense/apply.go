package sense

import (
	"paintbox/api"
	"paintbox/maths"
	"paintbox/vec"
)

// operation is what is done to the first n numbers of vectors, of as many as it takes. One that takes none stands for none.
type operation struct {
	takes int
	do    func(n int, l ...api.Vec) api.Vec
}

// Apply does an operation to the first n numbers of vectors of a Base.
func Apply(fn, base, n int, l ...api.Vec) (api.Vec, api.Errno) {
	o := operationOf(fn, base)
	if o.takes == 0 || o.takes != len(l) || n < 1 || n > len(api.Vec{}) {
		return api.Vec{}, api.ErrArg
	}
	return o.do(n, l...), api.OK
}

// operationOf answers the operation of this number for a Base.
func operationOf(fn, base int) operation {
	switch base {
	case api.BaseFloat:
		return ofFloats(fn)
	case api.BaseInt:
		return ofInts(fn)
	case api.BaseBool:
		return ofBools(fn)
	}
	return operation{}
}

// ofFloats answers the operation of this number for floats.
func ofFloats(fn int) operation {
	switch fn {
	case api.FnAdd:
		return vecTwo(api.VecAdd)
	case api.FnSub:
		return vecTwo(api.VecSub)
	case api.FnMul:
		return vecTwo(api.VecMul)
	case api.FnDiv:
		return vecTwo(api.VecDiv)
	case api.FnMin:
		return vecTwo(api.VecMin)
	case api.FnMax:
		return vecTwo(api.VecMax)
	case api.FnMod:
		return vecTwo(api.VecMod)
	case api.FnStep:
		return vecTwo(api.VecStep)
	case api.FnNeg:
		return vecOne(api.VecNeg)
	case api.FnAbs:
		return vecOne(api.VecAbs)
	case api.FnSign:
		return vecOne(api.VecSign)
	case api.FnFloor:
		return vecOne(api.VecFloor)
	case api.FnFract:
		return vecOne(api.VecFract)
	}
	return ofWhole(fn)
}

// ofWhole answers the operation of this number for floats, of those that take vectors as a whole.
func ofWhole(fn int) operation {
	switch fn {
	case api.FnMix:
		return vecThree(vec.Mix)
	case api.FnClamp:
		return vecThree(vec.Clamp)
	case api.FnDot:
		return operation{2, func(n int, l ...api.Vec) api.Vec {
			x, _ := vec.Dot(n, l[0], l[1])
			return api.Vec{x}
		}}
	case api.FnCross:
		return operation{2, func(_ int, l ...api.Vec) api.Vec { return vec.Cross(l[0], l[1]) }}
	case api.FnNormalize:
		return operation{1, func(n int, l ...api.Vec) api.Vec { return maths.Normalize(l[0], n) }}
	case api.FnLength:
		return operation{1, func(n int, l ...api.Vec) api.Vec { return api.Vec{maths.Length(l[0], n)} }}
	}
	return ofMaths(fn)
}

// ofMaths answers the operation of this number for floats, of those that maths has for single numbers.
func ofMaths(fn int) operation {
	switch fn {
	case api.FnSqrt:
		return byOne(maths.Sqrt)
	case api.FnInvSqrt:
		return byOne(maths.InvSqrt)
	case api.FnExp2:
		return byOne(maths.Exp2)
	case api.FnLog2:
		return byOne(maths.Log2)
	case api.FnSin:
		return byOne(maths.Sin)
	case api.FnCos:
		return byOne(maths.Cos)
	case api.FnPow:
		return byTwo(maths.Pow)
	}
	return ofNumbers(fn)
}

// ofInts answers the operation of this number for ints. What passes 32 bits falls away, as it does in Go.
func ofInts(fn int) operation {
	switch fn {
	case api.FnAdd:
		return byTwo(func(a, b api.Fix) api.Fix { return a + b })
	case api.FnSub:
		return byTwo(func(a, b api.Fix) api.Fix { return a - b })
	case api.FnMul:
		return byTwo(func(a, b api.Fix) api.Fix { return a * b })
	case api.FnDiv:
		return byTwo(quotient)
	case api.FnNeg:
		return byOne(func(a api.Fix) api.Fix { return -a })
	}
	return ofNumbers(fn)
}

// ofNumbers answers the operation of this number, of those that floats and ints have alike: raws lie as their numbers do.
func ofNumbers(fn int) operation {
	switch fn {
	case api.FnLess:
		return byFirst(func(a, b api.Fix) bool { return a < b })
	case api.FnMore:
		return byFirst(func(a, b api.Fix) bool { return a > b })
	case api.FnAtMost:
		return byFirst(func(a, b api.Fix) bool { return a <= b })
	case api.FnAtLeast:
		return byFirst(func(a, b api.Fix) bool { return a >= b })
	}
	return ofAll(fn)
}

// ofBools answers the operation of this number for bools.
func ofBools(fn int) operation {
	if fn == api.FnNot {
		return operation{1, func(_ int, l ...api.Vec) api.Vec { return truth(l[0][0] == 0) }}
	}
	return ofAll(fn)
}

// ofAll answers the operation of this number, of those that all Bases have.
func ofAll(fn int) operation {
	switch fn {
	case api.FnSame:
		return operation{2, func(n int, l ...api.Vec) api.Vec { return truth(areSame(n, l[0], l[1])) }}
	case api.FnOther:
		return operation{2, func(n int, l ...api.Vec) api.Vec { return truth(!areSame(n, l[0], l[1])) }}
	}
	return operation{}
}

// vecOne answers vec's operation of one.
func vecOne(op int) operation {
	return operation{1, func(n int, l ...api.Vec) api.Vec {
		v, _ := vec.One(op, n, l[0])
		return v
	}}
}

// vecTwo answers vec's operation of two.
func vecTwo(op int) operation {
	return operation{2, func(n int, l ...api.Vec) api.Vec {
		v, _ := vec.Two(op, n, l[0], l[1])
		return v
	}}
}

// vecThree answers one of vec's operations of three.
func vecThree(do func(n int, a, b, c api.Vec) (api.Vec, api.Errno)) operation {
	return operation{3, func(n int, l ...api.Vec) api.Vec {
		v, _ := do(n, l[0], l[1], l[2])
		return v
	}}
}

// byOne answers the operation that is done with each number.
func byOne(do func(a api.Fix) api.Fix) operation {
	return operation{1, func(n int, l ...api.Vec) api.Vec {
		var v api.Vec
		for i := range n {
			v[i] = do(l[0][i])
		}
		return v
	}}
}

// byTwo answers the operation that is done with both first numbers, both second ones, and so on.
func byTwo(do func(a, b api.Fix) api.Fix) operation {
	return operation{2, func(n int, l ...api.Vec) api.Vec {
		var v api.Vec
		for i := range n {
			v[i] = do(l[0][i], l[1][i])
		}
		return v
	}}
}

// byFirst answers the operation that asks both first numbers.
func byFirst(holds func(a, b api.Fix) bool) operation {
	return operation{2, func(_ int, l ...api.Vec) api.Vec { return truth(holds(l[0][0], l[1][0])) }}
}

// quotient answers how often b goes into a, rounded towards 0; 0 of b being 0.
func quotient(a, b api.Fix) api.Fix {
	if b == 0 {
		return 0
	}
	return a / b
}

// areSame tells whether the first n numbers are the same.
func areSame(n int, a, b api.Vec) bool {
	for i := range n {
		if a[i] != b[i] {
			return false
		}
	}
	return true
}

// truth answers the bool of what holds or does not.
func truth(holds bool) api.Vec {
	if holds {
		return api.Vec{1}
	}
	return api.Vec{}
}
