package check

import (
	"paintbox/api"
	"paintbox/kinds"
)

// variable is a built-in variable: its name, its stage, what Uses tells of it, its type's word.
type variable struct {
	name       string
	stage, use int
	word       string
}

// variables answers the built-in ones.
func variables() []variable {
	return []variable{
		{"gl_Position", api.StageVertex, api.UsePosition, "vec4"},
		{"gl_PointSize", api.StageVertex, api.UsePointSize, "float"},
		{"gl_FragCoord", api.StageFragment, api.UseFragCoord, "vec4"},
		{"gl_FrontFacing", api.StageFragment, api.UseFront, "bool"},
		{"gl_PointCoord", api.StageFragment, api.UsePointCoord, "vec2"},
		{"gl_FragColor", api.StageFragment, api.UseFragColor, "vec4"},
	}
}

// Builtin answers what stands for the built-in variable of this name and stage, and its type; false, if there is none.
func Builtin(name string, stage int) (int, api.Type, bool) {
	for _, v := range variables() {
		if v.name == name && v.stage == stage {
			return v.use, typeOf(v.word), true
		}
	}
	return 0, api.Type{}, false
}

// typeOf answers the type of a type's word; void of what is none.
func typeOf(word string) api.Type {
	t, _ := kinds.Of(word)
	return t
}
