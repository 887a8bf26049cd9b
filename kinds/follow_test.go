package kinds_test

import (
	"slices"
	"strings"
	"testing"

	"paintbox/api"
	"paintbox/kinds"
)

// P13.5: Of Word is the type, Word of Of the word.
func TestThereAndBack(t *testing.T) {
	for _, one := range all() {
		word, err := kinds.Word(one)
		back, no := kinds.Of(word)
		if back != one || err != api.OK || no != api.OK {
			t.Errorf("%v: %s, %d; %v, %d", one, word, err, back, no)
		}
	}
	for _, r := range table() {
		one, err := kinds.Of(r.word)
		back, no := kinds.Word(one)
		if back != r.word || err != api.OK || no != api.OK {
			t.Errorf("%s: %v, %d; %s, %d", r.word, one, err, back, no)
		}
	}
}

// P13.5: operators either way round; what comes of - and / does not hang on the order either.
func TestEitherWay(t *testing.T) {
	for _, op := range []string{"+", "*", "==", "!=", "&&", "||", "-", "/"} {
		for _, p := range pairs(append(all(), none()...)) {
			a, err := kinds.Binary(op, p[0], p[1])
			b, no := kinds.Binary(op, p[1], p[0])
			if a != b || err != no {
				t.Errorf("%v %s %v: %v, %d; %v, %d", p[0], op, p[1], a, err, b, no)
			}
		}
	}
}

// P13.5: a field of a field is a field: of the first one's places, and of the same type.
func TestFieldOfField(t *testing.T) {
	n := 0
	for _, one := range all() {
		for _, outer := range slices.Concat(words("xyzw", 2), words("rgba", 3), words("stpq", 4)) {
			first, l, err := kinds.Field(one, outer)
			if err != api.OK {
				continue
			}
			for _, inner := range slices.Concat(words("rgba", 1), words("xyzw", 2), words("stpq", 3)) {
				second, m, err := kinds.Field(first, inner)
				if err != api.OK {
					continue
				}
				n++
				joined := ""
				for _, at := range m {
					joined += outer[at : at+1]
				}
				direct, places, err := kinds.Field(one, joined)
				for i, at := range m {
					if err != api.OK || places[i] != l[at] {
						t.Fatalf("%v.%s.%s: %v, %v; %v, %d", one, outer, inner, l, m, places, err)
					}
				}
				if direct != second {
					t.Fatalf("%v.%s.%s: %v; %v", one, outer, inner, direct, second)
				}
			}
		}
	}
	if n < 10000 {
		t.Errorf("%d fields of fields", n)
	}
}

// P13.5: a field of two letters and more has fields itself, up to its last letter.
func TestFieldHasFields(t *testing.T) {
	for _, one := range all() {
		for _, outer := range slices.Concat(words("xyzw", 1), words("xyzw", 2), words("rgba", 3), words("stpq", 4)) {
			first, _, err := kinds.Field(one, outer)
			if err != api.OK {
				continue
			}
			for i, letter := range []string{"x", "y", "z", "w"} {
				want := api.ErrField
				if len(outer) > 1 && i < len(outer) {
					want = api.OK
				}
				if _, _, err := kinds.Field(first, letter); err != want {
					t.Errorf("%v.%s.%s: %d; want %d", one, outer, letter, err, want)
				}
			}
		}
	}
}

// P13.5: what a type's word makes it takes itself, whatever it was made of.
func TestMakesItself(t *testing.T) {
	for _, r := range table() {
		if r.word == "void" || r.word == "sampler2D" {
			continue
		}
		for n := range 4 {
			rows(all(), n, func(args []api.Type) {
				made, _, err := kinds.Call(r.word, args)
				if err != api.OK {
					return
				}
				tryCall(t, r.word, []api.Type{made}, answer{made, api.FnMake}, api.OK)
			})
		}
		one := api.Type{Base: r.base, Size: r.size}
		tryCall(t, r.word, []api.Type{one}, answer{one, api.FnMake}, api.OK)
	}
}

// P13.5: what comes of what is taken is a type that may be, and is the same whenever it is asked.
func TestComesWhatMayBe(t *testing.T) {
	for call := range chapterCalls() {
		name, args, _ := strings.Cut(call, " ")
		got, number, err := kinds.Call(name, list(args))
		again, same, no := kinds.Call(name, list(args))
		if _, wrong := kinds.Word(got); wrong != api.OK || got != again || number != same || err != api.OK || no != api.OK {
			t.Errorf("%s: %v, %d, %d; %v, %d, %d", call, got, number, err, again, same, no)
		}
	}
}
