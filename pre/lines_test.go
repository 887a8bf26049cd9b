package pre_test

import (
	"slices"
	"testing"

	"paintbox/api"
	"paintbox/lex"
	"paintbox/pre"
)

// at answers tokens with these Lines, each with a Text of its own.
func at(lines ...int) []api.Token {
	l := make([]api.Token, len(lines))
	for i, line := range lines {
		l[i] = api.Token{Kind: api.TokWord, Text: string(rune('a' + i)), At: 3 * i, Line: line}
	}
	return l
}

// P11.1: rows of tokens with one Line, that stand side by side, whatever the Lines are.
func TestLines(t *testing.T) {
	for _, c := range []struct {
		lines, sizes []int
	}{
		{nil, nil},
		{[]int{0}, []int{1}},
		{[]int{7}, []int{1}},
		{[]int{-1}, []int{1}},
		{[]int{0, 0}, []int{2}},
		{[]int{5, 5, 5}, []int{3}},
		{[]int{0, 1}, []int{1, 1}},
		{[]int{0, 0, 1, 2, 2, 2}, []int{2, 1, 3}},
		{[]int{0, 9, 9, 100}, []int{1, 2, 1}},
		{[]int{1, 0}, []int{1, 1}},
		{[]int{3, 3, 2, 2, 2, 1}, []int{2, 3, 1}},
		{[]int{0, 1, 0}, []int{1, 1, 1}},
		{[]int{0, 0, 1, 1, 0, 0, 1}, []int{2, 2, 2, 1}},
		{[]int{-1, -1, 0, -1}, []int{2, 1, 1}},
		{[]int{1<<63 - 1, -1 << 63, -1 << 63}, []int{1, 2}},
	} {
		l := at(c.lines...)
		rows := pre.Lines(l)
		var sizes []int
		for _, row := range rows {
			sizes = append(sizes, len(row))
		}
		if !slices.Equal(sizes, c.sizes) || !slices.Equal(slices.Concat(rows...), l) {
			t.Errorf("Lines of tokens in lines %v = %v; want rows of %v", c.lines, rows, c.sizes)
		}
	}
	if rows := pre.Lines([]api.Token{}); len(rows) != 0 {
		t.Errorf("Lines of no tokens: %v", rows)
	}
}

// P11.1: Lines does not ask what tokens are, nor how many, nor whether a # is among them.
func TestLinesOfAnything(t *testing.T) {
	l, _ := lex.Lex("#define A 3\n\n# A # /*\n*/ a\n#if")
	rows := pre.Lines(l)
	if len(rows) != 4 || brief(rows[0]) != "# define A 3" || brief(rows[1]) != "# A #" || brief(rows[2]) != "a" || brief(rows[3]) != "# if" {
		t.Errorf("Lines of a text's tokens: %v", rows)
	}
	odd := []api.Token{{}, {Kind: 99, Text: "a b", Num: 5, At: -7}, {Line: 1}, {At: 1 << 40, Line: 1}}
	if rows := pre.Lines(odd); len(rows) != 2 || !slices.Equal(rows[0], odd[:2]) || !slices.Equal(rows[1], odd[2:]) {
		t.Errorf("Lines of tokens that lex does not tell: %v", rows)
	}
	many := slices.Repeat(at(0, 0, 1), 5000)
	if rows := pre.Lines(many); len(rows) != 10000 || !slices.Equal(slices.Concat(rows...), many) {
		t.Errorf("Lines of %d tokens: %d rows", len(many), len(rows))
	}
}

// R3: what is handed in is not changed, the room behind its end neither; rows share no memory with it, nor with one another.
func TestLinesMemory(t *testing.T) {
	room := at(0, 0, 0, 1, 1, 0, 0)
	l, kept := room[:5], slices.Clone(room)
	rows := pre.Lines(l)
	for i := range rows {
		for j := range rows[i] {
			rows[i][j] = api.Token{Text: "changed"}
		}
		rows[i] = append(rows[i], api.Token{Text: "more"}, api.Token{Text: "more"})
	}
	if !slices.Equal(room, kept) {
		t.Error("what was handed in is another list now")
	}
	rows = pre.Lines(l)
	first := append(rows[0], api.Token{Text: "more"}, api.Token{Text: "more"}, api.Token{Text: "more"})
	if !slices.Equal(rows[1], kept[3:5]) || len(first) != 6 {
		t.Error("rows share memory")
	}
	l[3] = api.Token{}
	if !slices.Equal(rows[1], kept[3:5]) {
		t.Error("a row shares memory with what was handed in")
	}
}

// P11.1: one word, that does not begin with GL_, and has no two low lines side by side.
func TestFresh(t *testing.T) {
	for _, word := range []string{
		"a", "A", "z", "Z", "_", "a1", "_1", "_a_", "a_b_c", "GL", "GL1", "GLES", "gl_", "gl_X", "Gl_X", "gL_X", "xGL_", "_GL_X", "G_L_", "define", "ifdef", "version", "float", "main", "true",
		"_LINE_", "LINE", times(32, "a"), times(16, "_a"), "X" + times(31, "9"),
	} {
		if !pre.Fresh(word) {
			t.Errorf("Fresh(%q) is false", word)
		}
	}
	for _, word := range []string{
		"", " ", "\n", " a", "a ", "\ta", "a\n", "a b", "a//", "a/**/", "/**/a", "//\na", "a;", "a.", ".a", "#", "#a", "1", "1a", "1.5", ".5", "0", "+", "==", "a+b", "a-b", "(a)",
		"@", "a@", "\x00", "a\x00", "\xff", "é", "aé", "\"a\"", "/*", "a /*",
		"GL_", "GL_X", "GL_ES", "GL_a", "GL__", "GL_1", "__", "___", "__a", "a__", "a__b", "a_b__c", "a___b", "__LINE__", "__VERSION__", "__FILE__", "_a__",
		times(33, "a"), times(33, "_"), times(17, "_a"), times(api.MaxText, "a"), times(api.MaxText+1, "a"), times(api.MaxText+1, " "), times(api.MaxText, " ") + "a",
	} {
		if pre.Fresh(word) {
			t.Errorf("Fresh(%s) is true", short(word))
		}
	}
}

// P11.1: Fresh of all texts of up to four bytes out of a few, by its words.
func TestFreshShort(t *testing.T) {
	const few = "GL_a1 +"
	texts := []string{""}
	for n := 0; n < len(texts); n++ {
		text := texts[n]
		if len(text) < 5 {
			for _, r := range few {
				texts = append(texts, text+string(r))
			}
		}
		want := text != "" && text[0] != '1'
		for i := range len(text) {
			want = want && text[i] != ' ' && text[i] != '+'
			want = want && (i == 0 || text[i-1:i+1] != "__")
		}
		want = want && (len(text) < 3 || text[:3] != "GL_")
		if pre.Fresh(text) != want {
			t.Errorf("Fresh(%q) = %v", text, !want)
		}
	}
}

// P11.1, P11.2: a word may be defined, and undefined, by Run just if it is Fresh.
func TestFreshIsDefine(t *testing.T) {
	for _, word := range []string{"a", "_", "GL", "GL_", "GL_ES", "GL_X", "__", "a__b", "_a_", "__LINE__", "__VERSION__", "LINE", "define", times(32, "b"), times(33, "b"), "3", "+", "#", "a.b"} {
		_, spot := pre.Run("#define " + word)
		if fresh := word == "a.b" || pre.Fresh(word); fresh != (spot == api.Spot{}) {
			t.Errorf("Fresh(%q) = %v; define: %v", word, fresh, spot)
		}
		_, spot = pre.Run("#undef " + word)
		if fresh := pre.Fresh(word); fresh != (spot == api.Spot{}) {
			t.Errorf("Fresh(%q) = %v; undef: %v", word, fresh, spot)
		}
	}
}
