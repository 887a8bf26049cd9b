package parse_test

import (
	"slices"
	"strings"
	"testing"

	"paintbox/parse"
)

// typeWords are the words of types.
func typeWords() []string {
	return strings.Fields("void float vec2 vec3 vec4 int ivec2 ivec3 ivec4 bool bvec2 bvec3 bvec4 sampler2D")
}

// reservedWords are all words that are no names.
func reservedWords() []string {
	return append(typeWords(), strings.Fields("attribute uniform varying const if else for return discard true false while do break continue in out inout struct precision lowp mediump highp")...)
}

// P12.3: the words of types, and those that are reserved.
func TestWords(t *testing.T) {
	if len(typeWords()) != 14 || len(reservedWords()) != 37 {
		t.Fatal("words are missing")
	}
	for _, word := range reservedWords() {
		if !parse.Reserved(word) || parse.Type(word) != slices.Contains(typeWords(), word) {
			t.Error(word, parse.Reserved(word), parse.Type(word))
		}
		for _, near := range []string{" " + word, word + " ", word + "\n", word + "_", "_" + word, word + "2", word + word, word[1:], word[:len(word)-1], strings.ToUpper(word), strings.ToUpper(word[:1]) + word[1:]} {
			if !slices.Contains(reservedWords(), near) && (parse.Reserved(near) || parse.Type(near)) {
				t.Errorf("%q", near)
			}
		}
	}
	for _, word := range []string{
		"", " ", "a", "main", "mat2", "mat3", "mat4", "vec", "vec1", "vec5", "ivec", "ivec1", "bvec1", "bvec5", "sampler", "sampler2d", "sampler3D", "samplerCube", "double", "uint", "long", "short", "goto", "switch", "case",
		"default", "gl_Position", "gl_FragColor", "texture2D", "invariant", "volatile", "void main", "int;", "(", "{", "+", "=", "1", "1.0", "é", "\x00", "int\x00", "\xff", "discards", "elseif", "INT", "True",
	} {
		if parse.Reserved(word) || parse.Type(word) {
			t.Errorf("%q", word)
		}
	}
}
