package kinds_test

import (
	"slices"
	"strings"
	"testing"

	"paintbox/api"
	"paintbox/kinds"
)

// chapter is the chapter's table of the built-in functions: names, in the order of their numbers; what they are of; what comes.
const chapter = `abs sign floor fract sqrt inversesqrt exp2 log2 sin cos normalize | G | G
min max mod | G G , G float | G
pow | G G | G
step | G G , float G | G
mix | G G G , G G float | G
clamp | G G G , G float float | G
dot | G G | float
length | G | float
cross | vec3 vec3 | vec3
texture2D | sampler2D vec2 | vec4`

// answer is what Call answers of arguments that are taken.
type answer struct {
	comes  api.Type
	number int
}

// chapterNames answers the built-in functions' names, in order.
func chapterNames() []string {
	var l []string
	for _, row := range strings.Split(chapter, "\n") {
		l = append(l, strings.Fields(strings.Split(row, "|")[0])...)
	}
	return l
}

// chapterCalls answers all calls that the table takes, as words.
func chapterCalls() map[string]answer {
	m := map[string]answer{}
	number := 0
	for _, row := range strings.Split(chapter, "\n") {
		parts := strings.Split(row, "|")
		for _, name := range strings.Fields(parts[0]) {
			number++
			for _, args := range strings.Split(parts[1], ",") {
				for _, g := range []string{"float", "vec2", "vec3", "vec4"} {
					call := name + " " + strings.Join(strings.Fields(strings.ReplaceAll(args, "G", g)), " ")
					m[call] = answer{of(strings.TrimSpace(strings.ReplaceAll(parts[2], "G", g))), number}
				}
			}
		}
	}
	return m
}

// rows tells all lists of n types to a function.
func rows(l []api.Type, n int, tell func([]api.Type)) {
	args := make([]api.Type, n)
	var fill func(int)
	fill = func(i int) {
		if i == n {
			tell(args)
			return
		}
		for _, t := range l {
			args[i] = t
			fill(i + 1)
		}
	}
	fill(0)
}

// tryCall holds Call against what is wanted.
func tryCall(t *testing.T, name string, args []api.Type, want answer, wantErr api.Errno) {
	t.Helper()
	got, number, err := kinds.Call(name, args)
	if got != want.comes || number != want.number || err != wantErr {
		t.Errorf("%q of %v: %v, %d, %d; want %v, %d", name, args, got, number, err, want, wantErr)
	}
}

// P13.4: the functions' numbers are api's, in the order of the table.
func TestNumbers(t *testing.T) {
	numbers := []int{
		api.FnAbs, api.FnSign, api.FnFloor, api.FnFract, api.FnSqrt, api.FnInvSqrt, api.FnExp2, api.FnLog2, api.FnSin, api.FnCos, api.FnNormalize, api.FnMin, api.FnMax, api.FnMod, api.FnPow, api.FnStep, api.FnMix, api.FnClamp,
		api.FnDot, api.FnLength, api.FnCross, api.FnTexture,
	}
	names := chapterNames()
	if len(names) != len(numbers) {
		t.Fatalf("%d names, %d numbers", len(names), len(numbers))
	}
	float, vec3 := of("float"), of("vec3")
	for i, name := range names {
		_, one, _ := kinds.Call(name, []api.Type{vec3})
		_, two, _ := kinds.Call(name, []api.Type{vec3, vec3})
		_, three, _ := kinds.Call(name, []api.Type{vec3, vec3, vec3})
		_, picture, _ := kinds.Call(name, list("sampler2D vec2"))
		if numbers[i] != i+1 || max(one, two, three, picture) != numbers[i] || one+two+three+picture != numbers[i] {
			t.Errorf("%s: %d, %d, %d, %d; want %d", name, one, two, three, picture, numbers[i])
		}
	}
	if _, number, _ := kinds.Call("float", []api.Type{float}); number != 23 || api.FnMake != 23 {
		t.Errorf("float: %d", number)
	}
}

// P13.4: every built-in function with every list of up to three types, and with four.
func TestCallBuiltin(t *testing.T) {
	calls := chapterCalls()
	found := 0
	for _, name := range chapterNames() {
		try := func(args []api.Type) {
			if want, ok := calls[strings.TrimSpace(name+" "+line(args...))]; ok {
				found++
				tryCall(t, name, args, want, api.OK)
			} else {
				tryCall(t, name, args, answer{}, api.ErrType)
			}
		}
		for n := range 4 {
			rows(all(), n, try)
		}
		rows(list("float vec2 vec3 int sampler2D"), 4, try)
		rows(list("float vec3 sampler2D"), 5, try)
	}
	if found != len(calls) || found != 11*4+3*7+4+7+7+7+4+4+1+1 {
		t.Errorf("%d calls were taken; want %d", found, len(calls))
	}
}

// P13.4: rows of the table, and others that are near them, as they are written out.
func TestCallExamples(t *testing.T) {
	for _, r := range []struct {
		name, args, comes string
		number            int
	}{
		{"abs", "float", "float", 1}, {"sign", "vec2", "vec2", 2}, {"normalize", "vec4", "vec4", 11}, {"min", "vec3 vec3", "vec3", 12}, {"max", "vec3 float", "vec3", 13}, {"mod", "float float", "float", 14}, {"pow", "vec2 vec2", "vec2", 15},
		{"step", "vec4 vec4", "vec4", 16}, {"step", "float vec4", "vec4", 16}, {"mix", "vec2 vec2 float", "vec2", 17}, {"mix", "vec2 vec2 vec2", "vec2", 17}, {"clamp", "vec3 float float", "vec3", 18}, {"clamp", "vec3 vec3 vec3", "vec3", 18},
		{"dot", "vec3 vec3", "float", 19}, {"dot", "float float", "float", 19}, {"length", "vec4", "float", 20}, {"cross", "vec3 vec3", "vec3", 21}, {"texture2D", "sampler2D vec2", "vec4", 22},
	} {
		tryCall(t, r.name, list(r.args), answer{of(r.comes), r.number}, api.OK)
	}
	for _, r := range []string{
		"abs", "abs int", "abs ivec2", "abs bool", "abs void", "abs sampler2D", "abs float float", "min vec2", "min float vec2", "min vec2 vec3", "min int int", "min vec2 vec2 vec2", "pow vec2 float", "pow float vec2", "step vec2 float",
		"step vec2 vec3", "mix vec2 vec2", "mix vec2 float vec2", "mix float vec2 vec2", "mix float float vec2", "mix vec2 float float", "mix vec2 vec2 vec3", "clamp vec2 vec2 float", "clamp vec2 float vec2", "clamp float vec2 vec2",
		"clamp vec2 float", "dot vec2 vec3", "dot vec2 float", "dot vec2", "length", "length vec2 vec2", "cross vec2 vec2", "cross vec4 vec4", "cross float float", "cross vec3", "cross vec3 vec3 vec3", "texture2D sampler2D",
		"texture2D vec2 sampler2D", "texture2D sampler2D vec3", "texture2D sampler2D vec2 float", "texture2D sampler2D ivec2", "texture2D sampler2D float float", "texture2D vec2",
	} {
		name, args, _ := strings.Cut(r, " ")
		tryCall(t, name, list(args), answer{}, api.ErrType)
	}
}

// making tells whether a type's word takes arguments, in the chapter's words: each one is still needed when it comes, and at the end there are enough.
func making(n int, args []api.Type) bool {
	for _, a := range args {
		if a.Base < api.BaseFloat || a.Base > api.BaseBool {
			return false
		}
	}
	if n == 1 {
		return len(args) == 1
	}
	if len(args) == 1 && args[0].Size == 1 {
		return true
	}
	missing := n
	for _, a := range args {
		if missing <= 0 {
			return false
		}
		missing -= a.Size
	}
	return missing <= 0
}

// P13.4: each type's word as a function, with every list of up to four types, and with five; void and sampler2D are none.
func TestCallMake(t *testing.T) {
	for _, r := range table() {
		try := func(args []api.Type) {
			one := api.Type{Base: r.base, Size: r.size}
			switch {
			case r.word == "void" || r.word == "sampler2D":
				tryCall(t, r.word, args, answer{}, api.ErrNone)
			case making(r.size, args):
				tryCall(t, r.word, args, answer{one, 23}, api.OK)
			default:
				tryCall(t, r.word, args, answer{}, api.ErrType)
			}
		}
		for n := range 4 {
			rows(all(), n, try)
		}
		rows(list("void float vec2 ivec3 int bvec4 bool sampler2D"), 4, try)
		rows(list("float ivec2 bool void sampler2D"), 5, try)
	}
}

// P13.4: what types' words make, as it is written out.
func TestMakeExamples(t *testing.T) {
	for _, r := range []string{
		"float float", "float int", "float bool", "float vec4", "float bvec2", "int float", "int ivec3", "bool bool", "bool vec2", "vec2 float", "vec4 bool", "ivec3 float", "bvec4 int", "vec2 vec2", "vec2 vec3", "vec2 vec4", "vec3 ivec4", "vec4 bvec4",
		"vec2 float float", "vec2 float vec4", "vec3 vec2 float", "vec3 float vec2", "vec3 vec2 vec2", "vec3 float float float", "vec3 float float vec4", "vec4 float float float float", "vec4 vec2 vec2", "vec4 vec3 float", "vec4 vec3 vec4",
		"vec4 int bool ivec2", "vec4 float float float bvec4", "ivec2 bool float", "bvec3 vec2 int",
	} {
		name, args, _ := strings.Cut(r, " ")
		tryCall(t, name, list(args), answer{of(name), 23}, api.OK)
	}
	for _, r := range []string{
		"float", "int", "bool", "vec2", "vec4", "float float float", "bool bool bool", "int vec2 float", "vec3 vec2", "vec4 vec3", "vec4 vec2", "ivec4 bvec3", "vec2 vec3 float", "vec2 vec2 float", "vec2 float float float", "vec3 float float",
		"vec3 vec3 float", "vec3 vec2 float float", "vec4 float float", "vec4 vec2 float", "vec4 vec2 vec2 float", "vec4 float float float", "vec4 float float float float float", "vec4 vec4 vec4", "float void", "float sampler2D", "vec2 void",
		"vec2 sampler2D", "vec2 float sampler2D", "vec2 sampler2D float", "vec2 void vec2", "vec2 vec2 void", "vec2 float void float", "vec3 vec2 sampler2D", "vec2 sampler2D sampler2D",
	} {
		name, args, _ := strings.Cut(r, " ")
		tryCall(t, name, list(args), answer{}, api.ErrType)
	}
	for _, r := range []string{"void", "void void", "void float", "void sampler2D", "sampler2D", "sampler2D sampler2D", "sampler2D int", "sampler2D vec2"} {
		name, args, _ := strings.Cut(r, " ")
		tryCall(t, name, list(args), answer{}, api.ErrNone)
	}
}

// strangers are names that are no function's.
func strangers() []string {
	l := []string{
		"", " ", "main", "f", "mat2", "vec", "vec1", "vec5", "texture", "texture2d", "texture2DProj", "tan", "asin", "atan", "exp", "log", "ceil", "round", "distance", "reflect", "smoothstep", "any", "all", "not", "equal", "lessThan", "radians",
		"gl_Position", "attribute", "if", "true", "+", "1", "23", "\x00", "\xff", "\u00e9", strings.Repeat("abs", 1000),
	}
	for _, name := range append(chapterNames(), "vec2", "float", "bvec4") {
		l = append(l, " "+name, name+" ", name+"_", name+"\x00", name+"()", strings.ToUpper(name), strings.ToUpper(name[:1])+name[1:], name[1:], name+name)
	}
	return slices.DeleteFunc(l, isWord)
}

// P13.4: names that are neither a function's nor a type's word.
func TestCallNone(t *testing.T) {
	for _, name := range strangers() {
		for _, args := range []string{"", "void", "float", "vec4", "sampler2D", "vec2 vec2", "sampler2D vec2", "float float float", "vec3 float void bool"} {
			tryCall(t, name, list(args), answer{}, api.ErrNone)
		}
	}
}

// P13.4: types that may not be, in each place, go ahead of all else.
func TestCallWrong(t *testing.T) {
	names := append(chapterNames(), "mat2", "", "f", "void", "sampler2D", "float", "vec3", "bvec4")
	for _, wrong := range none() {
		for _, name := range names {
			for _, args := range []string{"", "float", "vec3 vec3", "sampler2D vec2", "void float vec4"} {
				l := list(args)
				for at := range len(l) + 1 {
					tryCall(t, name, slices.Insert(slices.Clone(l), at, wrong), answer{}, api.ErrArg)
				}
			}
		}
	}
}

// P13.4: long lists.
func TestCallLong(t *testing.T) {
	long := slices.Repeat(list("float"), 1<<18)
	for _, name := range []string{"abs", "min", "clamp", "texture2D", "float", "vec4", "bvec2"} {
		tryCall(t, name, long, answer{}, api.ErrType)
	}
	tryCall(t, "f", long, answer{}, api.ErrNone)
	long[len(long)-1] = api.Type{Base: api.BaseFloat, Size: 5}
	tryCall(t, "vec4", long, answer{}, api.ErrArg)
	tryCall(t, "f", long, answer{}, api.ErrArg)
}

// P13.4: the list that is handed in stays as it is, the room behind its end too; nil and empty are one.
func TestCallMemory(t *testing.T) {
	for _, name := range append(chapterNames(), "float", "vec4", "void", "f") {
		room := list("vec2 vec2 float bool sampler2D void")
		for n := range len(room) {
			kinds.Call(name, room[:n])
		}
		if !slices.Equal(room, list("vec2 vec2 float bool sampler2D void")) {
			t.Errorf("%s: %v", name, room)
		}
		a, n, err := kinds.Call(name, nil)
		b, m, no := kinds.Call(name, []api.Type{})
		if a != b || n != m || err != no {
			t.Errorf("%s of nothing: %v, %d, %d; %v, %d, %d", name, a, n, err, b, m, no)
		}
	}
}

// P13.4: which names are built-in functions'.
func TestBuiltin(t *testing.T) {
	for _, name := range chapterNames() {
		if !kinds.Builtin(name) {
			t.Error(name)
		}
	}
	for _, r := range table() {
		if kinds.Builtin(r.word) {
			t.Error(r.word)
		}
	}
	for _, name := range strangers() {
		if kinds.Builtin(name) {
			t.Errorf("%q", name)
		}
	}
}
