package check

import (
	"errors"
	"strconv"

	"paintbox/api"
)

// fault is what is wrong with a shader, and where, as an error.
type fault struct {
	api.Spot
}

// Error answers the fault's number and its place.
func (f fault) Error() string {
	return "error " + strconv.Itoa(int(f.Err)) + " at " + strconv.Itoa(f.At)
}

// faultAt answers the fault of this number at a place; none of OK.
func faultAt(err api.Errno, at int) error {
	if err == api.OK {
		return nil
	}
	return fault{api.Spot{Err: err, At: at}}
}

// spotOf answers the fault that an error is.
func spotOf(err error) api.Spot {
	var f fault
	if errors.As(err, &f) {
		return f.Spot
	}
	return api.Spot{}
}
