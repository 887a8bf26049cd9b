package kinds_test

import (
	"math"
	"slices"
	"strings"
	"testing"

	"paintbox/api"
	"paintbox/kinds"
)

// typed is a type and its word.
type typed struct {
	word       string
	base, size int
}

// table is each type's word, with the numbers that the chapter gives the Bases.
func table() []typed {
	return []typed{
		{"void", 0, 0},
		{"float", 1, 1}, {"vec2", 1, 2}, {"vec3", 1, 3}, {"vec4", 1, 4},
		{"int", 2, 1}, {"ivec2", 2, 2}, {"ivec3", 2, 3}, {"ivec4", 2, 4},
		{"bool", 3, 1}, {"bvec2", 3, 2}, {"bvec3", 3, 3}, {"bvec4", 3, 4},
		{"sampler2D", 4, 1},
	}
}

// all answers the types that may be.
func all() []api.Type {
	var l []api.Type
	for _, r := range table() {
		l = append(l, api.Type{Base: r.base, Size: r.size})
	}
	return l
}

// of answers the type of a word by the table.
func of(word string) api.Type {
	for _, r := range table() {
		if r.word == word {
			return api.Type{Base: r.base, Size: r.size}
		}
	}
	panic("no type's word: " + word)
}

// isWord tells whether a text is a type's word by the table.
func isWord(text string) bool {
	return slices.ContainsFunc(table(), func(r typed) bool { return r.word == text })
}

// list answers the types of words that stand in a text.
func list(words string) []api.Type {
	var l []api.Type
	for _, word := range strings.Fields(words) {
		l = append(l, of(word))
	}
	return l
}

// name answers the word of a type by the table.
func name(t api.Type) string {
	for _, r := range table() {
		if t == (api.Type{Base: r.base, Size: r.size}) {
			return r.word
		}
	}
	return "no type"
}

// line answers the words of types, one behind the other.
func line(l ...api.Type) string {
	var words []string
	for _, t := range l {
		words = append(words, name(t))
	}
	return strings.Join(words, " ")
}

// none answers types that may not be: each Base with Sizes below and above its own, and Bases that there are not with Sizes that others have.
func none() []api.Type {
	may := map[api.Type]int{}
	for _, t := range all() {
		may[t] = 1
	}
	numbers := []int{math.MinInt, math.MinInt32, -256, -2, -1, 0, 1, 2, 3, 4, 5, 6, 8, 256, 257, math.MaxInt32, math.MaxInt}
	var l []api.Type
	for _, base := range numbers {
		for _, size := range numbers {
			if t := (api.Type{Base: base, Size: size}); may[t] == 0 {
				l = append(l, t)
			}
		}
	}
	return l
}

// told holds a type and an error against those that are wanted; with an error the type is the zero one.
func told(t *testing.T, what string, got api.Type, err api.Errno, want api.Type, wantErr api.Errno) {
	t.Helper()
	if got != want || err != wantErr {
		t.Errorf("%q: %v, %d; want %v, %d", what, got, err, want, wantErr)
	}
}

// P13.1: every type's word, and its type.
func TestOf(t *testing.T) {
	if len(table()) != 14 {
		t.Fatal("types are missing")
	}
	for _, r := range table() {
		got, err := kinds.Of(r.word)
		told(t, r.word, got, err, api.Type{Base: r.base, Size: r.size}, api.OK)
	}
	got, err := kinds.Of("ivec3")
	told(t, "ivec3", got, err, api.Type{Base: api.BaseInt, Size: 3}, api.OK)
}

// P13.1: words that are no type's, those near a type's word among them.
func TestOfNone(t *testing.T) {
	words := []string{
		"", " ", "a", "mat2", "mat3", "mat4", "vec", "vec0", "vec1", "vec5", "vec02", "vec22", "vec-2", "vec+2", "vec 2", "ivec", "ivec0", "ivec1", "ivec5", "bvec", "bvec0", "bvec1", "bvec5", "fvec2", "uvec2", "float1", "float2", "int1", "int2",
		"bool1", "bool2", "void0", "void1", "sampler", "sampler1D", "sampler3D", "sampler2d", "samplerCube", "sampler2D1", "uint", "double", "main", "abs", "mix", "texture2D", "attribute", "uniform", "const", "true", "false",
		"0", "1", "2", "{1 2}", "vec\u00b2", "vec\uff12", "\x00", "\xff", "\u00e9", "float float", "float,float", strings.Repeat("vec2", 1000),
	}
	for _, r := range table() {
		w := r.word
		words = append(words, " "+w, w+" ", w+"\n", w+"\x00", "\x00"+w, w+"_", "_"+w, w+w, w[1:], w[:len(w)-1], strings.ToUpper(w), strings.ToUpper(w[:1])+w[1:])
	}
	for _, word := range words {
		if isWord(word) { // ivec2 without its first letter is one
			continue
		}
		got, err := kinds.Of(word)
		told(t, "Of "+word, got, err, api.Type{}, api.ErrNone)
	}
}

// P13.1: every type's word; types that may not be have none.
func TestWord(t *testing.T) {
	for _, r := range table() {
		if word, err := kinds.Word(api.Type{Base: r.base, Size: r.size}); word != r.word || err != api.OK {
			t.Errorf("%v: %q, %d", r, word, err)
		}
	}
	if word, err := kinds.Word(api.Type{Base: api.BaseBool, Size: 1}); word != "bool" || err != api.OK {
		t.Errorf("bool: %q, %d", word, err)
	}
	for _, one := range none() {
		if word, err := kinds.Word(one); word != "" || err != api.ErrArg {
			t.Errorf("%v: %q, %d", one, word, err)
		}
	}
}

// P13.1: among those that may not be there are each Base with a Size below and above its own.
func TestNone(t *testing.T) {
	l := map[api.Type]int{}
	for _, one := range none() {
		l[one] = 1
	}
	for _, one := range []api.Type{
		{Base: api.BaseVoid, Size: -1}, {Base: api.BaseVoid, Size: 1}, {Base: api.BaseVoid, Size: 4},
		{Base: api.BaseFloat, Size: 0}, {Base: api.BaseFloat, Size: -1}, {Base: api.BaseFloat, Size: 5},
		{Base: api.BaseInt, Size: 0}, {Base: api.BaseInt, Size: -1}, {Base: api.BaseInt, Size: 5},
		{Base: api.BaseBool, Size: 0}, {Base: api.BaseBool, Size: -1}, {Base: api.BaseBool, Size: 5},
		{Base: api.BaseSampler, Size: 0}, {Base: api.BaseSampler, Size: 2}, {Base: api.BaseSampler, Size: -1},
		{Base: -1, Size: 0}, {Base: -1, Size: 1}, {Base: 5, Size: 0}, {Base: 5, Size: 1}, {Base: 5, Size: 4},
	} {
		if l[one] == 0 {
			t.Errorf("%v is not among them", one)
		}
	}
	for _, one := range all() {
		if l[one] != 0 {
			t.Errorf("%v is among them", one)
		}
	}
}
