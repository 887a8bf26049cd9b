package kinds_test

import (
	"slices"
	"strings"
	"testing"

	"paintbox/api"
	"paintbox/kinds"
)

// letters are all that a field's name may have: three rows of four.
const letters = "xyzwrgbastpq"

// field is Field of a type that may be, in the chapter's words: the places, or false.
func field(one api.Type, name string) ([]int, bool) {
	if one.Size < 2 || len(name) < 1 || len(name) > 4 {
		return nil, false
	}
	var l []int
	for i := range len(name) {
		at := strings.IndexByte(letters, name[i])
		if at < 0 || at/4 != strings.IndexByte(letters, name[0])/4 || at%4 >= one.Size {
			return nil, false
		}
		l = append(l, at%4)
	}
	return l, true
}

// tryField holds Field against the model.
func tryField(t *testing.T, one api.Type, name string) {
	t.Helper()
	got, l, err := kinds.Field(one, name)
	want, ok := field(one, name)
	switch {
	case ok && (got != api.Type{Base: one.Base, Size: len(name)} || !slices.Equal(l, want) || err != api.OK):
		t.Errorf("%v.%q: %v, %v, %d; want %v", one, name, got, l, err, want)
	case !ok && (got != api.Type{} || len(l) != 0 || err != api.ErrField):
		t.Errorf("%v.%q: %v, %v, %d; want ErrField", one, name, got, l, err)
	}
}

// words answers all texts of n letters of an alphabet.
func words(alphabet string, n int) []string {
	l := []string{""}
	for range n {
		var longer []string
		for _, w := range l {
			for _, a := range []byte(alphabet) {
				longer = append(longer, w+string(rune(a)))
			}
		}
		l = longer
	}
	return l
}

// P13.3: names that are written out, with their places.
func TestFieldNames(t *testing.T) {
	rows := []struct {
		from, name, to string
		places         []int
	}{
		{"vec2", "x", "float", []int{0}}, {"vec2", "y", "float", []int{1}}, {"vec3", "z", "float", []int{2}}, {"vec4", "w", "float", []int{3}},
		{"vec2", "r", "float", []int{0}}, {"vec2", "g", "float", []int{1}}, {"vec3", "b", "float", []int{2}}, {"vec4", "a", "float", []int{3}},
		{"vec2", "s", "float", []int{0}}, {"vec2", "t", "float", []int{1}}, {"vec3", "p", "float", []int{2}}, {"vec4", "q", "float", []int{3}},
		{"vec3", "zyx", "vec3", []int{2, 1, 0}}, {"vec2", "yx", "vec2", []int{1, 0}}, {"vec2", "xx", "vec2", []int{0, 0}}, {"vec2", "yyyy", "vec4", []int{1, 1, 1, 1}},
		{"vec4", "xyzw", "vec4", []int{0, 1, 2, 3}}, {"vec4", "rgba", "vec4", []int{0, 1, 2, 3}}, {"vec4", "stpq", "vec4", []int{0, 1, 2, 3}}, {"vec4", "abgr", "vec4", []int{3, 2, 1, 0}},
		{"vec4", "qpts", "vec4", []int{3, 2, 1, 0}}, {"ivec2", "ts", "ivec2", []int{1, 0}}, {"ivec3", "bb", "ivec2", []int{2, 2}}, {"ivec4", "wzw", "ivec3", []int{3, 2, 3}},
		{"ivec4", "q", "int", []int{3}}, {"bvec2", "g", "bool", []int{1}}, {"bvec3", "ppp", "bvec3", []int{2, 2, 2}}, {"bvec4", "xwxw", "bvec4", []int{0, 3, 0, 3}},
	}
	for _, r := range rows {
		got, l, err := kinds.Field(of(r.from), r.name)
		if got != of(r.to) || !slices.Equal(l, r.places) || err != api.OK {
			t.Errorf("%s.%s: %v, %v, %d", r.from, r.name, got, l, err)
		}
	}
}

// P13.3: names that are none, as they are written out.
func TestFieldNone(t *testing.T) {
	rows := []string{
		"vec4 ", "vec3 w", "vec3 a", "vec3 q", "vec2 z", "vec2 b", "vec2 p", "vec2 xz", "vec2 zx", "vec3 xg", "vec4 xg", "vec4 xyr", "vec4 rx", "vec4 sx", "vec4 xs", "vec4 rs", "vec4 ra0", "vec4 stb", "vec4 xyza", "vec4 xyzwx", "vec4 xxxxx",
		"vec4 rgbar", "vec4 stpqs", "vec4 X", "vec4 XY", "vec4 xY", "vec4 R", "vec4 c", "vec4 u", "vec4 v", "vec4 uv", "vec4 i", "vec4 0", "vec4 x0", "vec4 _", "vec4 x_", "vec4  x", "vec4 x ", "vec4 x.y", "vec4 x,y", "vec4 length",
		"float x", "float r", "float s", "float ", "int x", "int g", "bool x", "bool s", "void x", "void ", "void r", "sampler2D x", "sampler2D s", "sampler2D st", "sampler2D ", "ivec2 z", "ivec3 w", "bvec2 w", "bvec3 q",
		"vec4 \x00", "vec4 x\x00", "vec4 \xff", "vec4 x\xff", "vec4 \xffx", "vec4 \ufffd", "vec4 \u00e9", "vec4 \u0445", "vec4 x\u0445", "vec4 \U0001f600", "vec4 \uff58", "vec4 x\u0301", "vec4 \xe2\x82", "vec4 \x78\x80",
	}
	for _, r := range rows {
		word, name, _ := strings.Cut(r, " ")
		got, l, err := kinds.Field(of(word), name)
		if got != (api.Type{}) || len(l) != 0 || err != api.ErrField {
			t.Errorf("%s.%q: %v, %v, %d", word, name, got, l, err)
		}
	}
	for _, n := range []int{5, 6, 7, 8, 256, 257, 260, 1 << 20} {
		for _, one := range all() {
			tryField(t, one, strings.Repeat("x", n))
		}
	}
}

// P13.3: all names of up to five of the rows' letters, of every type.
func TestFieldLetters(t *testing.T) {
	for n := range 6 {
		for _, name := range words(letters, n) {
			for _, one := range all() {
				tryField(t, one, name)
			}
		}
	}
}

// P13.3: all bytes, alone and beside a letter, and all runes of few bytes.
func TestFieldBytes(t *testing.T) {
	for _, one := range all() {
		for i := range 256 {
			b := string([]byte{byte(i)})
			for _, name := range []string{b, b + b, b + "x", "x" + b, "y" + b + "x", "rr" + b, b + "ss", "xyz" + b, b + "gba", "stpq" + b} {
				tryField(t, one, name)
			}
		}
		for r := rune(0); r < 0x3000; r++ {
			tryField(t, one, string(r))
			tryField(t, one, "x"+string(r))
		}
	}
	for i := range 1 << 16 {
		tryField(t, of("vec4"), string([]byte{byte(i), byte(i >> 8)}))
	}
}

// P13.3: types that may not be, with names that are some and with others.
func TestFieldWrong(t *testing.T) {
	for _, wrong := range none() {
		for _, name := range []string{"", "x", "y", "w", "xy", "rgba", "qqqq", "xg", "xxxxx", "?", "\xff"} {
			got, l, err := kinds.Field(wrong, name)
			if got != (api.Type{}) || len(l) != 0 || err != api.ErrArg {
				t.Errorf("%v.%q: %v, %v, %d", wrong, name, got, l, err)
			}
		}
	}
}

// P13.3: each answer is a list of its own, the room behind its end too.
func TestFieldMemory(t *testing.T) {
	for _, name := range []string{"x", "zy", "rgb", "stpq", "wwww"} {
		_, first, _ := kinds.Field(of("vec4"), name)
		_, second, _ := kinds.Field(of("vec4"), name)
		kept := slices.Clone(second)
		for i := range first[:cap(first)] {
			first[:cap(first)][i] = 77
		}
		_, third, _ := kinds.Field(of("vec4"), name)
		if !slices.Equal(second, kept) || !slices.Equal(third, kept) {
			t.Errorf("%s: %v, %v; want %v", name, second, third, kept)
		}
	}
}
