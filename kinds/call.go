package kinds

import (
	"slices"

	"paintbox/api"
)

// What built-in functions are of, whatever comes of it.
const (
	ofOne           = 1 + iota // G
	ofTwo                      // G, G
	ofTwoOrLast                // or the last one a float
	ofTwoOrFirst               // or the first one a float
	ofThreeOrLast              // G, G, G, or the last one a float
	ofThreeOrBounds            // or the last two floats
	ofSpace                    // vec3, vec3
	ofPicture                  // sampler2D, vec2
)

// function is a built-in function: its number, and what it is of.
type function struct {
	number, of int
}

// functions answers the built-in functions by their names.
func functions() map[string]function {
	return map[string]function{
		"abs":         {api.FnAbs, ofOne},
		"sign":        {api.FnSign, ofOne},
		"floor":       {api.FnFloor, ofOne},
		"fract":       {api.FnFract, ofOne},
		"sqrt":        {api.FnSqrt, ofOne},
		"inversesqrt": {api.FnInvSqrt, ofOne},
		"exp2":        {api.FnExp2, ofOne},
		"log2":        {api.FnLog2, ofOne},
		"sin":         {api.FnSin, ofOne},
		"cos":         {api.FnCos, ofOne},
		"normalize":   {api.FnNormalize, ofOne},
		"min":         {api.FnMin, ofTwoOrLast},
		"max":         {api.FnMax, ofTwoOrLast},
		"mod":         {api.FnMod, ofTwoOrLast},
		"pow":         {api.FnPow, ofTwo},
		"step":        {api.FnStep, ofTwoOrFirst},
		"mix":         {api.FnMix, ofThreeOrLast},
		"clamp":       {api.FnClamp, ofThreeOrBounds},
		"dot":         {api.FnDot, ofTwo},
		"length":      {api.FnLength, ofOne},
		"cross":       {api.FnCross, ofSpace},
		"texture2D":   {api.FnTexture, ofPicture},
	}
}

// Builtin tells whether a name is a built-in function's.
func Builtin(name string) bool {
	_, ok := functions()[name]
	return ok
}

// Call answers what comes of a built-in function, or of a type's word as one, and its number.
func Call(name string, args []api.Type) (api.Type, int, api.Errno) {
	if !mayBe(args...) {
		return api.Type{}, 0, api.ErrArg
	}
	if f, ok := functions()[name]; ok {
		return f.call(args)
	}
	t, err := Of(name)
	if err != api.OK || !isValue(t) {
		return api.Type{}, 0, api.ErrNone
	}
	if !makes(t, args) {
		return api.Type{}, 0, api.ErrType
	}
	return t, api.FnMake, api.OK
}

// call answers what comes of a built-in function. Each type that G could be is tried: no arguments go with two of them.
func (f function) call(args []api.Type) (api.Type, int, api.Errno) {
	for size := 1; size <= mostSize; size++ {
		g := floats(size)
		for _, l := range f.takes(g) {
			if slices.Equal(l, args) {
				return f.gives(g), f.number, api.OK
			}
		}
	}
	return api.Type{}, 0, api.ErrType
}

// takes answers the rows of arguments that a function takes, if this is G.
func (f function) takes(g api.Type) [][]api.Type {
	float := floats(1)
	switch f.of {
	case ofOne:
		return [][]api.Type{{g}}
	case ofTwo:
		return [][]api.Type{{g, g}}
	case ofTwoOrLast:
		return [][]api.Type{{g, g}, {g, float}}
	case ofTwoOrFirst:
		return [][]api.Type{{g, g}, {float, g}}
	case ofThreeOrLast:
		return [][]api.Type{{g, g, g}, {g, g, float}}
	case ofThreeOrBounds:
		return [][]api.Type{{g, g, g}, {g, float, float}}
	case ofSpace:
		return [][]api.Type{{floats(3), floats(3)}}
	case ofPicture:
		return [][]api.Type{{sampler(), floats(2)}}
	}
	return nil
}

// gives answers what comes of a function, if this is G.
func (f function) gives(g api.Type) api.Type {
	switch f.number {
	case api.FnDot, api.FnLength:
		return floats(1)
	case api.FnCross:
		return floats(3)
	case api.FnTexture:
		return floats(4)
	}
	return g
}

// makes tells whether a type's word takes these arguments. The rules hold of plain types too: one argument is always enough there, so there are never several.
func makes(t api.Type, args []api.Type) bool {
	sum, last := 0, 0
	for _, a := range args {
		if !isValue(a) {
			return false
		}
		sum, last = sum+a.Size, a.Size
	}
	switch len(args) {
	case 0:
		return false
	case 1:
		return sum == 1 || sum >= t.Size
	}
	return sum >= t.Size && sum-last < t.Size
}
