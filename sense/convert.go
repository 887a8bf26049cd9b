package sense

import (
	"paintbox/api"
	"paintbox/fix"
)

// Convert answers a number of one Base as one of another.
func Convert(from, to int, x api.Fix) (api.Fix, api.Errno) {
	if !hasValues(from) || !hasValues(to) {
		return 0, api.ErrArg
	}
	switch {
	case from == to:
		return x, api.OK
	case to == api.BaseBool:
		return truth(x != 0)[0], api.OK
	case to == api.BaseInt:
		return toInt(from, x), api.OK
	}
	return toFloat(from, x), api.OK
}

// hasValues tells whether there are values of a Base to convert.
func hasValues(base int) bool {
	return base == api.BaseFloat || base == api.BaseInt || base == api.BaseBool
}

// toInt answers the int of a float or of a bool. Go's quotient goes towards 0, as the whole part does.
func toInt(from int, x api.Fix) api.Fix {
	if from == api.BaseBool {
		return x
	}
	return x / api.One
}

// toFloat answers the float of an int or of a bool.
func toFloat(from int, x api.Fix) api.Fix {
	if from == api.BaseBool {
		return fix.Of(int(truth(x != 0)[0]))
	}
	return fix.Of(int(x))
}

// valueOf answers the value of a type that these numbers are.
func valueOf(kind api.Type, numbers api.Vec) api.Vec {
	var v api.Vec
	for i := range kind.Size {
		v[i] = numbers[i]
		if kind.Base == api.BaseBool {
			v[i] = truth(numbers[i] != 0)[0]
		}
	}
	return v
}
