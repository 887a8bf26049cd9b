package pre_test

import (
	"slices"
	"strconv"
	"testing"

	"paintbox/api"
	"paintbox/pre"
)

// P11.2: words that stand for nothing, one token, many, one another, themselves.
func TestReplace(t *testing.T) {
	tells(t, "a A GL_E GL_ES_ __LINE _LINE__ __VERSION", "a A GL_E GL_ES_ __LINE _LINE__ __VERSION")
	tells(t, "#define A\nA A+A a", "+ a")
	tells(t, "#define A 1.50\nA A+A a", "1.50 1.50 + 1.50 a")
	tells(t, "#define A a b + 1\nA A", "a b + 1 a b + 1")
	tells(t, "#define A B\n#define B C\n#define C 3\nA B C", "3 3 3")
	tells(t, "#define A 1 B 2\n#define B 3 C 4\n#define C 5\nA", "1 3 5 4 2")
	tells(t, "#define A B B\n#define B C C\n#define C 1 2\nA", "1 2 1 2 1 2 1 2")
	tells(t, "#define A A\nA A", "A A")
	tells(t, "#define A A + 1\nA", "A + 1")
	tells(t, "#define A A A\nA A", "A A A A")
	tells(t, "#define A B\n#define B A\nA B", "A B")
	tells(t, "#define A B\n#define B C\n#define C A B C\nA", "A B C")
	tells(t, "#define A B\n#define B C\n#define C A B C\nB C", "B B C C C C")
	tells(t, "#define A B C\n#define B C\n#define C B\nA", "B C")
	tells(t, "#define A B\n#define B B A\nA B", "B A B B")
	tells(t, "#define A B B\n#define B (A)\nA", "(A) (A)")
	tells(t, "#define A B A B\n#define B 1\nA", "1 A 1")
	tells(t, "#define A +\nA+ +A A A", "+ + + + + +")
	tells(t, "#define A 1\nA.x AA A1 _A a.A", "1 . x AA A1 _A a . 1")
	tells(t, "#define f(x) x\nf(f)", "(x) x ((x) x)")
}

// P11.2: a word stands for what it stood for at its line, from its directive on.
func TestFromThenOn(t *testing.T) {
	tells(t, "A B\n#define A B\nA B\n#define B 3\nA B\n#undef A\nA B\n#define A 4 B\nA B\n#undef B\nA B", "A B B B 3 3 A 3 4 3 3 4 B B")
	tells(t, "#define A 1\n#define B A\n#undef A\n#define A 2\nB", "2")
	tells(t, "#ifdef GL_ES\n#define A 1\n#else\n#define A 2\n#endif\nA\n#ifdef A\n#undef A\n#endif\nA", "1 A")
}

// P11.2: GL_ES, __LINE__ and __VERSION__ at first, as ints with their numbers.
func TestAtFirst(t *testing.T) {
	l := tells(t, "GL_ES __VERSION__\n__LINE__\n\n __LINE__ __LINE__", "1 100 2 4 4")
	want := []api.Token{
		{Kind: api.TokInt, Text: "1", Num: api.One, At: 0, Line: 0},
		{Kind: api.TokInt, Text: "100", Num: 100 * api.One, At: 6, Line: 0},
		{Kind: api.TokInt, Text: "2", Num: 2 * api.One, At: 18, Line: 1},
		{Kind: api.TokInt, Text: "4", Num: 4 * api.One, At: 29, Line: 3},
		{Kind: api.TokInt, Text: "4", Num: 4 * api.One, At: 38, Line: 3},
	}
	if !slices.Equal(l, want) {
		t.Errorf("tokens %v; want %v", l, want)
	}
	tells(t, times(8000, "\n")+"__LINE__", "8001")
	tells(t, times(api.MaxText-8, "\n")+"__LINE__", strconv.Itoa(api.MaxText-7))
	tells(t, "/*\n\n*/ __LINE__ /*\n*/ __LINE__ // \n __LINE__", "3 4 5")
	tells(t, "#define GL GL_ES __VERSION__\nGL", "1 100")
}

// P11.2: __LINE__ within others is of the line of the word in the text that is replaced.
func TestLineWithin(t *testing.T) {
	tells(t, "#define L __LINE__\nL\n\nL L\n", "2 4 4")
	tells(t, "#define M L L\n#define L __LINE__ +\n\nM\n__LINE__ M", "4 + 4 + 5 5 + 5 +")
	l := tells(t, "#define L a __LINE__\n\n  L", "a 3")
	if len(l) != 2 || l[1] != (api.Token{Kind: api.TokInt, Text: "3", Num: 3 * api.One, At: 24, Line: 2}) {
		t.Errorf("L: %v", l)
	}
	tells(t, "#ifdef __LINE__\n__LINE__\n#endif\n#ifdef X\n__LINE__\n#else\n__LINE__\n#endif\n__LINE__", "2 7 9")
	tells(t, "__LINE__\n#define A __LINE__\nA A\n#undef A\n#define A A __LINE__\nA", "1 3 3 A 6")
}

// P11.2: all that replaces a word has its At and its Line, what is within others too; Kind, Text and Num are its own.
func TestPlaces(t *testing.T) {
	text := "#define A 1.5 + B\n#define B b C\n#define C A __VERSION__\n\n x A,\n B"
	got, spot := pre.Run(text)
	want := []api.Token{
		{Kind: api.TokWord, Text: "x", At: 58, Line: 4},
		{Kind: api.TokFloat, Text: "1.5", Num: 98304, At: 60, Line: 4},
		{Kind: api.TokSign, Text: "+", At: 60, Line: 4},
		{Kind: api.TokWord, Text: "b", At: 60, Line: 4},
		{Kind: api.TokWord, Text: "A", At: 60, Line: 4},
		{Kind: api.TokInt, Text: "100", Num: 6553600, At: 60, Line: 4},
		{Kind: api.TokSign, Text: ",", At: 61, Line: 4},
		{Kind: api.TokWord, Text: "b", At: 64, Line: 5},
		{Kind: api.TokFloat, Text: "1.5", Num: 98304, At: 64, Line: 5},
		{Kind: api.TokSign, Text: "+", At: 64, Line: 5},
		{Kind: api.TokWord, Text: "B", At: 64, Line: 5},
		{Kind: api.TokInt, Text: "100", Num: 6553600, At: 64, Line: 5},
	}
	if spot != (api.Spot{}) || !slices.Equal(got, want) {
		t.Errorf("Run(%q) = %v, %v; want %v", text, got, spot, want)
	}
}

// P11.2: MaxTokens tokens, and one more, of the text's own ones behind replaced ones.
func TestMaxTokens(t *testing.T) {
	tells(t, times(api.MaxTokens, "+ "), times(api.MaxTokens, "+ "))
	two := "#define A a b\n#define E\n"
	full := two + times(1024, "A ")
	tells(t, full, times(1024, "a b "))
	tells(t, full+"\nE E E", times(1024, "a b "))
	tells(t, full+"\n#ifdef X\nA a\n#endif", times(1024, "a b "))
	refused(t, full+"x", api.ErrLong, len(full))
	refused(t, full+"E\n E x y", api.ErrLong, len(full)+5)
	refused(t, full+"A", api.ErrLong, len(full))
	refused(t, full+"E A", api.ErrLong, len(full)+2)
	refused(t, full+"GL_ES", api.ErrLong, len(full))
	refused(t, full+"__LINE__", api.ErrLong, len(full))
	refused(t, full+"+", api.ErrLong, len(full))
	refused(t, full+"1", api.ErrLong, len(full))
	odd := two + times(1023, "A ") + "+ "
	tells(t, odd+"x", times(1023, "a b ")+"+ x")
	tells(t, odd+"E GL_ES E", times(1023, "a b ")+"+ 1")
	refused(t, odd+"A", api.ErrLong, len(odd))
	refused(t, odd+"x A", api.ErrLong, len(odd)+2)
	refused(t, odd+"x y", api.ErrLong, len(odd)+2)
}

// P11.2: MaxTokens tokens, and one more, of one word.
func TestMaxTokensOfOne(t *testing.T) {
	text := "#define B " + times(32, "+ ") + "\n#define A " + times(64, "B ") + "\n#define C A x\n#define D x A\n#define E\n"
	all := times(2048, "+ ")
	l := tells(t, text+"E A E", all)
	if len(l) != 2048 || l[2047].At != len(text)+2 || l[0].At != len(text)+2 {
		t.Errorf("%d tokens, of which the last one has another place", len(l))
	}
	refused(t, text+"C", api.ErrLong, len(text))
	refused(t, text+"D", api.ErrLong, len(text))
	refused(t, text+"A A", api.ErrLong, len(text)+2)
	refused(t, text+"x A", api.ErrLong, len(text)+2)
	refused(t, text+"A x", api.ErrLong, len(text)+2)
}

// replacing answers lines that define a word W with which just n words are replaced, W itself among them, and no token is told; n is at least 1.
func replacing(n int) string {
	return "#define e\n#define d " + times(45, "e ") + "\n#define W " + times((n-1)/46, "d ") + times((n-1)%46, "e ") + "\n"
}

// P11.2: MaxTokens words that are replaced with one word, and one more; those of one word do not count for another one.
func TestMaxReplaced(t *testing.T) {
	for _, n := range []int{1, 2, 46, 47, 48, 1000, api.MaxTokens - 1, api.MaxTokens} {
		tells(t, replacing(n)+"W a W W", "a")
	}
	for _, n := range []int{api.MaxTokens + 1, api.MaxTokens + 2, 3000} {
		text := replacing(n)
		refused(t, text+"W", api.ErrLong, len(text))
		refused(t, text+"a d\n e W W", api.ErrLong, len(text)+7)
		tells(t, text+"a d e\n#ifdef X\nW\n#endif\n#undef W\nW", "a W")
	}
	text := replacing(api.MaxTokens - 1)
	tells(t, text+"#define V W\nV V", "")
	tells(t, text+"#define V W +\nV V", "+ +")
	tells(t, text+"#define V V W V\nV", "V V")
	refused(t, text+"#define V W e\nV", api.ErrLong, len(text)+14)
	refused(t, text+"#define V e W\nV", api.ErrLong, len(text)+14)
	refused(t, text+"#define V W GL_ES\nV", api.ErrLong, len(text)+18)
	refused(t, text+"#define V W __LINE__\nW V", api.ErrLong, len(text)+23)
}

// P11.3: words that double, with a token in the last one of them or none, come to an end; so do rings of words, and long rows.
func TestEnds(t *testing.T) {
	for _, last := range []string{"", "z "} {
		text := "#define a0 " + last + "\n"
		for i := range 25 {
			a, b := string(rune('a'+i))+"0", string(rune('b'+i))+"0"
			text += "#define " + b + " " + a + " " + a + "\n"
		}
		for i := range 26 {
			word := string(rune('a'+i)) + "0"
			if i <= 10 {
				tells(t, text+word, times(1<<i, last))
			} else {
				refused(t, text+word, api.ErrLong, len(text))
			}
		}
	}
	ring, row := "", ""
	for i := range 200 {
		a, b := "w"+strconv.Itoa(i), "w"+strconv.Itoa((i+1)%200)
		ring += "#define " + a + " " + b + " " + b + "\n"
	}
	refused(t, ring+"w7", api.ErrLong, len(ring))
	for i := range 400 {
		row += "#define w" + strconv.Itoa(i) + " w" + strconv.Itoa(i+1) + "\n"
	}
	tells(t, row+"w0 w399 w400", "w400 w400 w400")
}

// P11.3: n words, each of which stands for all of them. With b words within their own replacing b tokens stay, and the n - b others are replaced in their turn.
func TestAllOfAll(t *testing.T) {
	const words = "abcdefg"
	for n := 1; n <= len(words); n++ {
		text, all := "", ""
		for _, r := range words[:n] {
			all += " " + string(r)
		}
		for _, r := range words[:n] {
			text += "#define " + string(r) + all + "\n"
		}
		want := n
		for b := n - 1; b > 0; b-- {
			want = b + (n-b)*want
		}
		if want > api.MaxTokens {
			refused(t, text+"a", api.ErrLong, len(text))
		} else if got, spot := pre.Run(text + "a"); spot != (api.Spot{}) || len(got) != want {
			t.Errorf("%d words: %d tokens, %v; want %d", n, len(got), spot, want)
		}
	}
}
