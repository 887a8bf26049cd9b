package kinds

import (
	"strings"

	"paintbox/api"
)

// Field answers what comes of a field of a type, and its places.
func Field(t api.Type, name string) (api.Type, []int, api.Errno) {
	if !mayBe(t) {
		return api.Type{}, nil, api.ErrArg
	}
	if isPlain(t) || !isValue(t) {
		return api.Type{}, nil, api.ErrField
	}
	l := places(name, t.Size)
	if len(l) == 0 {
		return api.Type{}, nil, api.ErrField
	}
	return api.Type{Base: t.Base, Size: len(l)}, l, api.OK
}

// places answers the places of a field's letters, in the row that has all of them below the size; none, if there is no such row, or there are no letters, or too many. It counts bytes, for each letter of the rows has just one.
func places(name string, size int) []int {
	if len(name) > mostSize {
		return nil
	}
rows:
	for _, row := range []string{"xyzw", "rgba", "stpq"} {
		var l []int
		for _, letter := range name {
			place := strings.IndexRune(row[:size], letter)
			if place < 0 {
				continue rows
			}
			l = append(l, place)
		}
		return l
	}
	return nil
}
