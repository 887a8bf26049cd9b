package pre_test

import (
	"slices"
	"strconv"
	"strings"
	"testing"

	"paintbox/api"
	"paintbox/lex"
	"paintbox/pre"
)

// times answers a text that stands there n times.
func times(n int, text string) string { return strings.Repeat(text, n) }

// lines answers a text of these lines.
func lines(l ...string) string { return strings.Join(l, "\n") }

// short answers a text for a report: of a long one its begin and its length.
func short(text string) string {
	if len(text) > 120 {
		return strconv.Quote(text[:120]) + " and on, " + strconv.Itoa(len(text)) + " bytes"
	}
	return strconv.Quote(text)
}

// brief answers the Texts of tokens, a blank between each two.
func brief(l []api.Token) string {
	texts := make([]string, len(l))
	for i, token := range l {
		texts[i] = token.Text
	}
	return strings.Join(texts, " ")
}

// tells looks that Run tells just these tokens, wherever they stand; want is a text of theirs.
func tells(t *testing.T, text, want string) []api.Token {
	t.Helper()
	got, spot := pre.Run(text)
	l, wrong := lex.Lex(want)
	if wrong != (api.Spot{}) {
		t.Fatalf("%s is no text of tokens", short(want))
	}
	if spot != (api.Spot{}) || !lex.Same(got, l) {
		t.Errorf("Run(%s) = %s, %v; want %s", short(text), short(brief(got)), spot, short(want))
	}
	return got
}

// refused looks that Run refuses a text for this reason, at this place, with nothing beside it.
func refused(t *testing.T, text string, err api.Errno, at int) {
	t.Helper()
	got, spot := pre.Run(text)
	if len(got) != 0 || spot != (api.Spot{Err: err, At: at}) {
		t.Errorf("Run(%s) = %d tokens, %v; want nothing, {%d %d}", short(text), len(got), spot, err, at)
	}
}

// wrong looks that Run refuses, by ErrPre, a line that is handed in by itself, behind another line, and within parts that count; and lets it be where it does not count.
func wrong(t *testing.T, line string) {
	t.Helper()
	refused(t, line, api.ErrPre, strings.Index(line, "#"))
	for _, ahead := range []string{"a\n", "#ifdef GL_ES\n", "#ifdef X\n#else\n", "#ifndef X\n#ifdef GL_ES\n", "#define X\n#define Y X\n", "#\n"} {
		refused(t, ahead+line+"\n#else", api.ErrPre, len(ahead)+strings.Index(line, "#"))
	}
	tells(t, "#ifdef X\n"+line+"\n#endif\nb", "b")
	tells(t, "#ifdef GL_ES\na\n#else\n"+line+"\n#endif\nb", "a b")
	tells(t, "#ifndef GL_ES\n#ifndef X\n#else\n"+line+"\n#endif\n"+line+"\n#endif\nb", "b")
}

// P11.2: the chapter's examples.
func TestExamples(t *testing.T) {
	l := tells(t, "#define N 3\nN N", "3 3")
	if len(l) != 2 || l[0].At != 12 || l[1].At != 14 || l[0].Line != 1 || l[1].Line != 1 {
		t.Errorf("the places of N N: %v", l)
	}
	tells(t, lines("#define A B", "#define B A + A", "A"), "A + A")
	tells(t, lines("#ifdef X", "a", "#else", "b", "#endif"), "b")
	tells(t, "GL_ES __LINE__", "1 1")
	refused(t, "a\n#version 100", api.ErrPre, 2)
	refused(t, "#endif", api.ErrPre, 0)
	refused(t, "#define GL_X", api.ErrPre, 0)
	refused(t, "#if 1", api.ErrPre, 0)
	refused(t, "#ifdef X", api.ErrPre, 8)
}

// P11.2: texts without a token, and those of which nothing is left.
func TestNothing(t *testing.T) {
	for _, text := range []string{
		"", " ", "\n", "\t\n\v\f\r ", "// a", "/* # */", "//#\n", "#", " # ", "#\n", "#\n#\n#", "# // a", "#/* a */", "/**/#",
		"#version 100", "#define A", "#define A 1 2 3", "#undef A", "#ifdef A\n#endif", "#ifndef A\n#else\n#endif",
		"#ifdef A\na b c\n#endif", "#define A\nA A A", times(api.MaxText, " "), times(1024, "#\n"),
	} {
		if l, spot := pre.Run(text); len(l) != 0 || spot != (api.Spot{}) {
			t.Errorf("Run(%s) = %v, %v; want nothing", short(text), l, spot)
		}
	}
}

// P11.2: lex's errors, at their places, ahead of all that is wrong here, and in lines that do not count.
func TestLexErrors(t *testing.T) {
	for text, want := range map[string]api.Spot{
		"@":                                   {Err: api.ErrLex, At: 0},
		"a @":                                 {Err: api.ErrLex, At: 2},
		"/*":                                  {Err: api.ErrLex, At: 0},
		"#endif\n1a":                          {Err: api.ErrLex, At: 7},
		"#if\n007":                            {Err: api.ErrLex, At: 4},
		"#ifdef X\n@\n#endif":                 {Err: api.ErrLex, At: 9},
		"#ifdef X\n# 'a'\n#endif":             {Err: api.ErrLex, At: 11},
		"#define A \\\n 3":                    {Err: api.ErrLex, At: 10},
		"#define A 1 % 2":                     {Err: api.ErrLex, At: 12},
		"#endif 32768":                        {Err: api.ErrNumber, At: 7},
		"#define A 99999":                     {Err: api.ErrNumber, At: 10},
		"#ifdef " + times(33, "a"):            {Err: api.ErrLong, At: 7},
		"#define " + times(33, "A"):           {Err: api.ErrLong, At: 8},
		times(api.MaxTokens, "+ ") + "+":      {Err: api.ErrLong, At: 2 * api.MaxTokens},
		"#endif" + times(api.MaxText, " "):    {Err: api.ErrLong, At: 0},
		times(api.MaxTokens, "#\n") + "#":     {Err: api.ErrLong, At: 2 * api.MaxTokens},
		"#ifdef X\n" + times(2046, "# "):      {Err: api.ErrLong, At: 9 + 2*2045},
		"#ifdef X\n" + times(2046, "#\n")[1:]: {Err: api.ErrPre, At: 9 + 2*2046 - 1},
	} {
		if l, spot := pre.Run(text); len(l) != 0 || spot != want {
			t.Errorf("Run(%s) = %d tokens, %v; want nothing, %v", short(text), len(l), spot, want)
		}
	}
}

// P11.2: a # alone says nothing; a # within a line is a token as others are.
func TestSharps(t *testing.T) {
	tells(t, "#\na\n #\nb\n#", "a b")
	tells(t, "a #", "a #")
	tells(t, "a # define A 3\nA", "a # define A 3 A")
	tells(t, "a # if\n+ # endif # else # version", "a # if + # endif # else # version")
	refused(t, "a /*\n*/ # endif", api.ErrPre, 8)
	tells(t, "#define A # A\nA # A", "# A # # A")
	tells(t, "#define H #\nH define X 3\nX H\nH endif", "# define X 3 X # # endif")
	tells(t, "/* a\n */ /**/ # /**/ define /**/ A /**/ 3\nA", "3")
	tells(t, "#define A /*\n*/ 3\nA", "3")
	tells(t, "#define A // 4\n3 A", "3")
	tells(t, "#ifdef X // #endif\na\n/*\n#endif\n*/\n#endif", "")
	wrong(t, "# #")
	wrong(t, "##")
	wrong(t, "# # define A")
	wrong(t, " \t# 3")
	wrong(t, "# 3.5")
	wrong(t, "# +")
	wrong(t, "# A")
	wrong(t, "# 3 define A")
}

// P11.2: the words behind a # are just these, as they are written.
func TestOtherDirectives(t *testing.T) {
	for _, word := range []string{
		"if", "elif", "error", "pragma", "extension", "line", "include", "defined", "Define", "DEFINE", "defin", "define_", "undefine", "defines", "un_def",
		"ifdefined", "if_def", "Ifdef", "elsE", "else_", "end", "endif_", "ENDIF", "versions", "ver", "version100", "GL_ES", "__LINE__", "__VERSION__", "_",
	} {
		wrong(t, "#"+word)
		wrong(t, "#"+word+" A")
		wrong(t, "# "+word+" 100")
	}
}

// P11.2: version and the int 100, in the first place alone.
func TestVersion(t *testing.T) {
	tells(t, "#version 100", "")
	tells(t, "#version 100\na", "a")
	tells(t, "\n\n /* a\n */ // b\n # version /**/ 100 // c\na __VERSION__", "a 100")
	for _, line := range []string{
		"#version", "#version 10", "#version 101", "#version 1000", "#version 300", "#version 100.0", "#version 100.", "#version 100 es", "#version 100 100",
		"#version 100 #", "#version A", "#version GL_ES", "#version __VERSION__", "#version - 100", "#version (100)", "#version 0", "#version +",
	} {
		wrong(t, line)
	}
	for _, ahead := range []string{"a\n", "#\n", "#version 100\n", "#define A\n", "#undef A\n", "#ifdef GL_ES\n", "#ifdef X\n#else\n", "+\n", "1\n", "\n#\n\n"} {
		refused(t, ahead+"#version 100", api.ErrPre, len(ahead))
	}
	tells(t, "#ifdef X\n#version 100\n#endif\na", "a")
	tells(t, "a #version 100", "a # version 100")
	tells(t, "#version 100\n#define version 200\nversion", "200")
	refused(t, "#define A 100\n#version A", api.ErrPre, 14)
}

// P11.2: define, a word, and any tokens.
func TestDefine(t *testing.T) {
	tells(t, "#define A 3\nA", "3")
	tells(t, "#define A\na A b", "a b")
	tells(t, "#define A -\n1 A 2", "1 - 2")
	tells(t, "#define A(x) x + x\nA(1)", "(x) x + x (1)")
	tells(t, "#define A define B\nA", "define B")
	tells(t, "#define define 3\n#define X define\nX define", "3 3")
	tells(t, "#define ifdef\n#define else\n#define A 1\n#ifdef A\na ifdef\n#else\nb\n#endif", "a")
	tells(t, "A\n#define A 3\nA\n#undef A\nA\n#define A 4\nA", "A 3 A 4")
	tells(t, "#define _ 1\n#define _a_ 2\n#define GL 3\n#define gl_x 4\n#define aGL_ 5\n#define GLx_ 6\n_ _a_ GL gl_x aGL_ GLx_", "1 2 3 4 5 6")
	tells(t, "#define "+times(32, "a")+" 3\n"+times(32, "a")+" "+times(31, "a"), "3 "+times(31, "a"))
	tells(t, "#define a 1 // one\n#define A 2 /* two */ 3\na A", "1 2 3")
	for _, line := range []string{
		"#define", "#define 3", "#define 3 A", "#define .5", "#define + A", "#define #", "#define # A", "#define (A)", "#define - A 3",
		"#define GL_", "#define GL_X", "#define GL_ES", "#define GL_ES 1", "#define GL_ES 1 2", "#define GL_ES_", "#define GL__",
		"#define __", "#define __A", "#define A__", "#define a__b 3", "#define ___", "#define __LINE__", "#define __LINE__ 3", "#define __VERSION__ 100", "#define __FILE__",
	} {
		wrong(t, line)
	}
	refused(t, "#define A\n#define A", api.ErrPre, 10)
	refused(t, "#define A 3\n#define A 3", api.ErrPre, 12)
	refused(t, "#define A B\n#define B\n#define B 1", api.ErrPre, 22)
	refused(t, "#define A\n#ifdef A\n#define A 1\n#endif", api.ErrPre, 19)
	tells(t, "#define A 1\n#ifndef A\n#define A 2\n#endif\nA", "1")
	tells(t, "#ifdef A\n#define A 2\n#endif\n#define A 1\nA", "1")
	tells(t, "#define A 1\n#define a 2\n#define A_ 3\n#define AA 4\nA a A_ AA", "1 2 3 4")
	tells(t, "#define B A\n#define A 3\nB", "3")
}

// P11.2: undef and a word, whether it stands for something or not.
func TestUndef(t *testing.T) {
	tells(t, "#undef A\nA", "A")
	tells(t, "#define A 3\n#undef A\nA", "A")
	tells(t, "#define A 3\n#undef A\n#undef A\n#define A\nA a", "a")
	tells(t, "#define A 3\n#undef a\n#undef B\nA", "3")
	tells(t, "#define A B\n#define B 3\n#undef B\nA", "B")
	tells(t, "#define A B\n#define B 3\n#undef A\nA B", "A 3")
	tells(t, "#define A 3\n#ifdef X\n#undef A\n#endif\nA", "3")
	tells(t, "#define A 3\n#undef A\n#ifdef A\na\n#else\nb\n#endif", "b")
	tells(t, "#undef undef\n#undef define\n#define undef 3\n#undef undef\nundef", "undef")
	for _, line := range []string{
		"#undef", "#undef 3", "#undef A B", "#undef A A", "#undef A 3", "#undef A #", "#undef +", "#undef # A", "#undef .5", "#undef (A)",
		"#undef GL_", "#undef GL_ES", "#undef GL_X", "#undef __", "#undef __LINE__", "#undef __VERSION__", "#undef A__", "#undef a__b",
	} {
		wrong(t, line)
	}
}

// P11.2: ifdef and ifndef, and a word that stands for something, be it nothing, or does not.
func TestParts(t *testing.T) {
	stand := func(ahead, word string, want bool) {
		t.Helper()
		yes, no := "a c", "b c"
		if !want {
			yes, no = no, yes
		}
		tells(t, ahead+lines("#ifdef "+word, "a", "#else", "b", "#endif", "c"), yes)
		tells(t, ahead+lines("#ifndef "+word, "a", "#else", "b", "#endif", "c"), no)
		tells(t, ahead+lines("#ifdef "+word, "a", "#endif", "c"), strings.TrimPrefix(yes, "b "))
		tells(t, ahead+lines("#ifndef "+word, "#else", "b", "#endif", "c"), strings.TrimPrefix(no, "a "))
	}
	stand("", "GL_ES", true)
	stand("", "__LINE__", true)
	stand("", "__VERSION__", true)
	stand("", "X", false)
	stand("", "GL_X", false)
	stand("", "__FILE__", false)
	stand("", "a__b", false)
	stand("", "define", false)
	stand("#define A\n", "A", true)
	stand("#define A 0\n", "A", true)
	stand("#define A B\n", "A", true)
	stand("#define A B\n", "B", false)
	stand("#define A A\n", "A", true)
	stand("#define A\n#undef A\n", "A", false)
	stand("#define A\n", "a", false)
	for _, name := range []string{"#ifdef", "#ifndef"} {
		for _, behind := range []string{"", " 3", " .5", " +", " #", " A B", " A A", " X 3", " GL_ES 1", " ! A", " (A)", " A #", " # A", "/*\n*/ GL_ES"} {
			refused(t, name+behind+"\n#endif", api.ErrPre, 0)
			refused(t, "a\n"+name+behind+"\n#endif", api.ErrPre, 2)
			tells(t, "#ifdef X\n"+name+behind+"\na\n#else\nb\n#endif\n#endif\nc", "c")
			tells(t, "#ifdef GL_ES\na\n#else\n"+name+behind+"\nb\n#endif\nc\n#endif\nd", "a d")
		}
		tells(t, " # "+name[1:]+" /**/ GL_ES // a\n#endif\na", "a")
	}
}

// P11.2: else and endif, with whatever stands behind them, where they may be, and where not.
func TestElseEndif(t *testing.T) {
	tells(t, "#ifdef X\na\n#else X\nb\n#endif X\nc", "b c")
	tells(t, "#ifdef GL_ES\na\n#else # if 3 ;\nb\n#endif 1 2 + #\nc", "a c")
	tells(t, "#ifdef X\n#ifdef Y 3\n#else 1\na\n#endif 2\nb\n#else 3\nc\n#endif 4", "c")
	for _, behind := range []string{"", " X", " 3", " # +", " else", " endif"} {
		refused(t, "#else"+behind, api.ErrPre, 0)
		refused(t, "#endif"+behind, api.ErrPre, 0)
		refused(t, "a\n #else"+behind+"\n#endif", api.ErrPre, 3)
		refused(t, "#ifdef X\n#endif\n#else"+behind, api.ErrPre, 16)
		refused(t, "#ifdef X\n#endif\n#endif"+behind, api.ErrPre, 16)
		refused(t, "#ifdef X\n#else\n#endif\n#endif"+behind, api.ErrPre, 22)
		for _, word := range []string{"XXXXX", "GL_ES"} {
			open := "#ifdef " + word + "\n"
			refused(t, open+"#else"+behind+"\n#else"+behind+"\n#endif", api.ErrPre, 13+6+len(behind))
			refused(t, open+"#else\na\n#else"+behind+"\n#endif", api.ErrPre, 13+8)
			refused(t, open+"#ifdef\n#else\n#else"+behind+"\n#endif\n#endif", api.ErrPre, map[string]int{"XXXXX": 26, "GL_ES": 13}[word])
			refused(t, open+"#ifdef Y\n#else\n#else"+behind+"\n#endif\n#endif", api.ErrPre, 13+9+6)
			refused(t, open+"#else\n#ifdef Y\n#else\n#else"+behind+"\n#endif\n#endif", api.ErrPre, 13+6+9+6)
			refused(t, open+"#ifdef Y\n#else\n#endif\n#endif\n#endif"+behind, api.ErrPre, 13+9+6+7+7)
			refused(t, open+"#else\n#ifdef Y\n#endif\n#else"+behind, api.ErrPre, 13+6+9+7)
		}
	}
	tells(t, "a #else\nb #endif", "a # else b # endif")
}

// P11.2: a part that is open at the end is wrong at the text's length, with whatever blanks behind it.
func TestOpenAtTheEnd(t *testing.T) {
	for _, text := range []string{
		"#ifdef X", "#ifndef X", "#ifdef GL_ES", "#ifdef X\n", "#ifdef X  // endif", "#ifdef X\na\n#else", "#ifdef X\n#else\nb\n\n", "#ifndef X\n#ifdef X\n#endif",
		"#ifdef X\n#ifdef\n#endif", "#ifdef X\n#ifdef\n#else\n#endif\n#else\n", "a\n#ifdef GL_ES\n#ifdef X\n#ifndef X", "#ifdef X\n/* #endif */", "#ifdef X\n//\n#if",
		"#ifdef X\na #endif", "#define A #endif\n#ifdef X\nA", "#ifndef X\n#define A #endif\nA",
	} {
		refused(t, text, api.ErrPre, len(text))
	}
	refused(t, "#ifdef X #endif", api.ErrPre, 0)
}

// nest answers a text with parts within one another, and its tokens that count. A bit of bits says whether a part's word stands for something, one of turns whether the next part is within its second half; counts, whether all around it counts.
func nest(depth, bits, turns int, counts bool) (text, want string) {
	if depth == 0 {
		return half("middle", counts)
	}
	first := bits&1 == 1
	halves := [2]bool{counts && first, counts && !first}
	text = map[bool]string{true: "#ifdef GL_ES\n", false: "#ifdef X\n"}[first]
	for i, counts := range halves {
		if i == 1 {
			text += "#else\n"
		}
		a, b := half("ab"[i:i+1]+strconv.Itoa(depth), counts)
		text, want = text+a, want+b
		if i == turns&1 {
			a, b = nest(depth-1, bits>>1, turns>>1, counts)
			text, want = text+a, want+b
		}
	}
	a, b := half("behind", counts)
	return text + "#endif\n" + a, want + b
}

// half answers a line of a word, and the word, if it counts.
func half(word string, counts bool) (text, want string) {
	if !counts {
		return word + "\n", ""
	}
	return word + "\n", word + " "
}

// P11.2: parts within one another, in both halves, of words that stand for something and not.
func TestNested(t *testing.T) {
	for depth := range 5 {
		for bits := range 1 << depth {
			for turns := range 1 << depth {
				text, want := nest(depth, bits, turns, true)
				tells(t, text, want)
			}
		}
	}
	deep := times(400, "#ifdef GL_ES\n")
	tells(t, deep+"a\n"+times(400, "#endif\n")+"b", "a b")
	tells(t, times(400, "#ifdef X\n")+"a\n"+times(400, "#endif\n")+"b", "b")
	refused(t, deep+times(399, "#endif\n"), api.ErrPre, len(deep)+399*7)
	refused(t, deep+times(400, "#endif\n")+" #endif", api.ErrPre, len(deep)+400*7+1)
}

// P11.3: what stands in a part that does not count changes nothing, as long as it is tokens, and its parts are closed.
func TestWhatDoesNotCount(t *testing.T) {
	for _, within := range []string{
		"", "a b c", "A", "#", "##", "# 3", "#if", "#elif", "#error a b", "#version 100", "#version 300", "#define", "#define A 4", "#define B 4", "#define GL_ES", "#undef", "#undef A", "#undef GL_ES", "#undef A A",
		"#ifdef\n#endif", "#ifndef\n#endif", "#ifdef A B C\n#endif", "#ifdef A\n#define B 4\n#endif", "#ifdef A\n#else\n#undef A\n#endif", "#ifndef A\na\n#else\nb\n#endif",
		"#ifdef GL_ES\n#ifdef GL_ES\na\n#endif\nb\n#endif", "#ifdef X\n#else\n#ifdef X\n#else\na\n#endif\n#endif", times(1000, "A "), times(200, "#ifdef A\n") + times(200, "#endif\n"), times(600, "# A\n"),
	} {
		tells(t, "#define A 3\n#ifdef X\n"+within+"\n#endif\nA B GL_ES", "3 B 1")
		tells(t, "#define A 3\n#ifdef A\nA\n#else\n"+within+"\n#endif\nA B GL_ES", "3 3 B 1")
		tells(t, "#define A 3\n#ifndef A\n"+within+"\n#else\nA\n#endif\nA B GL_ES", "3 3 B 1")
		tells(t, "#define A 3\n#ifdef X\n#ifdef A\n"+within+"\n#else\n#endif\n#else\nb\n#endif\nA B GL_ES", "b 3 B 1")
		tells(t, "#define A 3\n#ifdef X\n#ifdef A\n#else\n"+within+"\n#endif\n#else\nb\n#endif\nA B GL_ES", "b 3 B 1")
	}
}

// P11.2: the first thing that is wrong, line by line; what is open at the end comes last.
func TestWhichIsFirst(t *testing.T) {
	refused(t, "#if\n#endif", api.ErrPre, 0)
	refused(t, "a\n#endif\n#if", api.ErrPre, 2)
	refused(t, "#ifdef X\n#if\n#else\n#if", api.ErrPre, 19)
	refused(t, "#ifdef X\n#else\n#else\n", api.ErrPre, 15)
	refused(t, "#ifdef X\n#endif\n#ifdef X\n", api.ErrPre, 25)
	long := "#define A " + times(1100, "+") + "\n"
	long = strings.ReplaceAll(long, "++", "+ + ")
	refused(t, long+"A\nA\n#if", api.ErrLong, len(long)+2)
	refused(t, long+"A\n#if\nA", api.ErrPre, len(long)+2)
	refused(t, long+"#ifdef A\nA\nA", api.ErrLong, len(long)+11)
	refused(t, long+"#ifdef A\nA\n", api.ErrPre, len(long)+11)
	refused(t, long+"A\n#ifdef X\nA\n#endif\n#else\nA", api.ErrPre, len(long)+20)
}

// R3, R5: two runs of one text tell the same, and share no memory.
func TestRunMemory(t *testing.T) {
	text := "#define A a b c\nA GL_ES A __LINE__"
	one, _ := pre.Run(text)
	kept := slices.Clone(one)
	for i := range one {
		one[i] = api.Token{}
	}
	two, _ := pre.Run(text)
	if len(kept) != 8 || !slices.Equal(two, kept) {
		t.Errorf("a second run tells %v; want %v", two, kept)
	}
}
