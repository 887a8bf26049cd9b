package kinds

import (
	"paintbox/api"
)

// Binary answers what comes of an operator between two types.
func Binary(op string, a, b api.Type) (api.Type, api.Errno) {
	if !mayBe(a, b) {
		return api.Type{}, api.ErrArg
	}
	switch op {
	case "+", "-", "*", "/":
		return comes(together(a, b))
	case "<", ">", "<=", ">=":
		return comes(truth(), a == b && isNumber(a) && isPlain(a))
	case "==", "!=":
		return comes(truth(), a == b && isValue(a))
	case "&&", "||":
		return comes(truth(), a == truth() && b == truth())
	}
	return api.Type{}, api.ErrNone
}

// Unary answers what comes of an operator ahead of a type.
func Unary(op string, a api.Type) (api.Type, api.Errno) {
	if !mayBe(a) {
		return api.Type{}, api.ErrArg
	}
	switch op {
	case "-":
		return comes(a, isNumber(a))
	case "!":
		return comes(a, a == truth())
	}
	return api.Type{}, api.ErrNone
}

// Assign answers what comes of a value that is given to a place.
func Assign(op string, place, value api.Type) (api.Type, api.Errno) {
	if !mayBe(place, value) {
		return api.Type{}, api.ErrArg
	}
	switch op {
	case "=":
		return comes(place, place == value && isValue(place))
	case "+=", "-=", "*=", "/=":
		sum, taken := together(place, value)
		return comes(place, taken && sum == place)
	}
	return api.Type{}, api.ErrNone
}

// Cond answers what comes of one of two types, chosen by a third.
func Cond(c, a, b api.Type) (api.Type, api.Errno) {
	if !mayBe(c, a, b) {
		return api.Type{}, api.ErrArg
	}
	return comes(a, c == truth() && a == b && isValue(a))
}

// together answers what comes of two types by + - * and /, and whether these take them.
func together(a, b api.Type) (api.Type, bool) {
	sizes := a.Size == b.Size || isPlain(a) || isPlain(b)
	sum := api.Type{Base: a.Base, Size: max(a.Size, b.Size)}
	return sum, isNumber(a) && a.Base == b.Base && sizes
}

// comes answers a type, if the operator took what it was handed.
func comes(t api.Type, taken bool) (api.Type, api.Errno) {
	if !taken {
		return api.Type{}, api.ErrType
	}
	return t, api.OK
}
