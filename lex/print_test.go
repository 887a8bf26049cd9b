package lex_test

import (
	"math"
	"slices"
	"strconv"
	"testing"

	"paintbox/api"
	"paintbox/lex"
)

// held looks what Check says of a list, and that Print tells nothing of one that is refused.
func held(t *testing.T, what string, l []api.Token, want api.Errno) {
	t.Helper()
	if got := lex.Check(l); got != want {
		t.Errorf("Check of %s: %d; want %d", what, got, want)
	}
	if want != api.OK && lex.Print(l) != "" {
		t.Errorf("Print of %s: %s; want no bytes", what, short(lex.Print(l)))
	}
}

// sound answers a token of each kind, and of each edge, as Lex tells it.
func sound() []api.Token {
	return []api.Token{
		word("a"), word("_"), word(times(32, "Z")), whole("0", 0), whole("7", 7), whole("32767", 32767),
		float(".5", 32768), float("1.", api.One), float("00.25", 16384), float("99999.0", api.Most), float("."+times(39, "0"), 0),
		sign("("), sign("."), sign("/"), sign("*"), sign("#"), sign("/="), sign("&&"), sign("||"),
	}
}

// unsound answers tokens that Lex does not tell, each for one reason.
func unsound() map[string]api.Token {
	all := map[string]api.Token{
		"zero":                                  {},
		"no text":                               word(""),
		"no kind":                               {Text: "a"},
		"no kind, a text of no bytes, a number": {Num: 1},
		"a blank ahead":                         word(" a"),
		"a blank behind":                        word("a "),
		"a line feed behind":                    word("a\n"),
		"a comment behind":                      word("a//"),
		"a comment ahead":                       word("/**/a"),
		"a comment alone":                       sign("//"),
		"a comment without an end":              sign("/*"),
		"a blank alone":                         word(" "),
		"two words":                             word("a b"),
		"a word and a sign":                     word("a;"),
		"two signs":                             sign("()"),
		"three signs":                           sign("==="),
		"a blank within a sign":                 sign("+ ="),
		"a byte alone":                          sign("@"),
		"half a sign":                           sign("&"),
		"33 bytes":                              word(times(33, "a")),
		"32768":                                 whole("32768", 32767),
		"32768, saturated":                      {Kind: api.TokInt, Text: "32768", Num: api.Most},
		"007":                                   whole("007", 7),
		"1a":                                    whole("1a", 1),
		"-1":                                    whole("-1", -1),
		"1..":                                   float("1..", api.One),
		"a float of 41 bytes":                   float("."+times(40, "0"), 0),
		"too long":                              word(times(api.MaxText+1, "a")),
		"too long, blanks behind":               word("a" + times(api.MaxText, " ")),
		"too many":                              sign(times(api.MaxTokens+1, ";")),
		"bytes above 127":                       word("é"),
		"another int":                           whole("1", 2),
		"an int without its number":             whole("1", 0),
		"an int of raw 1":                       {Kind: api.TokInt, Text: "1", Num: 1},
		"another float":                         float("1.5", 98305),
		"a word with a number":                  {Kind: api.TokWord, Text: "a", Num: 1},
		"a sign with a number":                  {Kind: api.TokSign, Text: ";", Num: -1},
		"a float as an int":                     {Kind: api.TokInt, Text: "1.", Num: api.One},
		"an int as a float":                     {Kind: api.TokFloat, Text: "1", Num: api.One},
	}
	for _, kind := range []int{math.MinInt, -2, -1, 0, 1, 2, 3, 4, 5, math.MaxInt, 1<<32 + 1} {
		for _, token := range sound() {
			if token.Kind != kind {
				token.Kind = kind
				all[token.Text+" of kind "+strconv.Itoa(kind)] = token
			}
		}
	}
	return all
}

// P10.2: Check asks Kind, Text and Num of each token, wherever it stands in the list, and neither At nor Line.
func TestCheck(t *testing.T) {
	held(t, "nil", nil, api.OK)
	held(t, "an empty list", []api.Token{}, api.OK)
	held(t, "all that are sound", sound(), api.OK)
	for _, token := range sound() {
		held(t, token.Text, []api.Token{token}, api.OK)
		for _, n := range []int{math.MinInt, -1, 1, 8192, 8193, math.MaxInt} {
			held(t, token.Text+" elsewhere", []api.Token{set(token, n, 0), set(token, 0, n), set(token, n, n)}, api.OK)
		}
	}
	for name, token := range unsound() {
		held(t, name, []api.Token{token}, api.ErrArg)
		for i := range 4 {
			held(t, name, slices.Insert(sound()[:3:3], i, token), api.ErrArg)
		}
	}
}

// P10.2: MaxTokens tokens may be, one more may not, whatever they are.
func TestCheckMany(t *testing.T) {
	for _, token := range []api.Token{sign(";"), word(times(32, "a")), whole("1", 1), float("."+times(39, "5"), 36409)} {
		l := slices.Repeat([]api.Token{token}, api.MaxTokens)
		held(t, "MaxTokens tokens", l, api.OK)
		if got, want := lex.Print(l), times(api.MaxTokens, token.Text+" "); got != want[:len(want)-1] {
			t.Errorf("Print of MaxTokens times %s: %s", token.Text, short(got))
		}
		held(t, "one more", append(l, token), api.ErrArg)
		held(t, "twice as many", slices.Repeat(l, 2), api.ErrArg)
		held(t, "MaxTokens, the last one wrong", append(l[:api.MaxTokens-1:api.MaxTokens-1], api.Token{}), api.ErrArg)
		held(t, "MaxTokens, the first one wrong", append([]api.Token{{}}, l[1:]...), api.ErrArg)
	}
}

// P10.2: Print puts a line feed where the Line rises, just one, and else a blank; At says nothing to it.
func TestPrint(t *testing.T) {
	for _, r := range []struct {
		lines []int
		want  string
	}{
		{nil, ""}, {[]int{0}, "a"}, {[]int{7}, "a"}, {[]int{-7}, "a"}, {[]int{0, 0}, "a b"}, {[]int{0, 1}, "a\nb"}, {[]int{1, 0}, "a b"},
		{[]int{0, 5}, "a\nb"}, {[]int{5, 4, 5}, "a b\nc"}, {[]int{3, 3, 4, 4, 2, 3}, "a b\nc d e\nf"}, {[]int{-2, -1, 0}, "a\nb\nc"},
		{[]int{math.MinInt, math.MaxInt, math.MinInt}, "a\nb c"}, {[]int{math.MaxInt, math.MaxInt}, "a b"}, {[]int{1 << 32, 0}, "a b"}, {[]int{0, 1 << 32}, "a\nb"},
	} {
		for _, at := range []int{0, -1, math.MaxInt} {
			var l []api.Token
			for i, line := range r.lines {
				l = append(l, set(word(string(rune('a'+i))), at*i, line))
			}
			if got := lex.Print(l); got != r.want {
				t.Errorf("Print of lines %v: %q; want %q", r.lines, got, r.want)
			}
		}
	}
	if got := lex.Print(sound()[3:]); got != "0 7 32767 .5 1. 00.25 99999.0 ."+times(39, "0")+" ( . / * # /= && ||" {
		t.Errorf("Print of all that are sound: %q", got)
	}
	for text, want := range map[string]string{
		"v.x // c": "v . x", "a /* \n */ b": "a\nb", "a1+=.5;": "a1 += .5 ;", " \n\na\n\n\nb c\n": "a\nb c", "": "", "1.;": "1. ;", "//\n/ /": "/ /", "/ *": "/ *",
	} {
		if l, _ := lex.Lex(text); lex.Print(l) != want {
			t.Errorf("Print of %q: %q; want %q", text, lex.Print(l), want)
		}
	}
}

// P10.2: Same asks Kinds, Texts, Nums, one by one, and how many; not where tokens stand, nor whether Lex tells them.
func TestSame(t *testing.T) {
	same := func(what string, a, b []api.Token, want bool) {
		t.Helper()
		if lex.Same(a, b) != want || lex.Same(b, a) != want {
			t.Errorf("Same of %s: %v, %v; want %v", what, lex.Same(a, b), lex.Same(b, a), want)
		}
	}
	l := sound()
	same("nothing", nil, nil, true)
	same("nil and empty", nil, []api.Token{}, true)
	same("a list and itself", l, l, true)
	same("a list and nothing", l, nil, false)
	same("one zero token and nothing", []api.Token{{}}, nil, false)
	same("zero tokens", []api.Token{{}}, []api.Token{{At: 1, Line: 1}}, true)
	for i := range l {
		same("a list and its begin", l, l[:i], false)
		same("a list and its end", l, l[i+1:], false)
		same("a list and one more", l, slices.Insert(slices.Clone(l), i, l[i]), false)
		for part, change := range []func(*api.Token){
			func(x *api.Token) { x.Kind++ }, func(x *api.Token) { x.Text += " " }, func(x *api.Token) { x.Num++ },
			func(x *api.Token) { x.At++ }, func(x *api.Token) { x.Line-- },
		} {
			other := slices.Clone(l)
			change(&other[i])
			same("a list and one with a change", l, other, part > 2)
		}
	}
	same("another order", []api.Token{word("a"), word("b")}, []api.Token{word("b"), word("a")}, false)
	same("what Lex does not tell", []api.Token{{Kind: 9, Text: "a b", Num: 5}}, []api.Token{{Kind: 9, Text: "a b", Num: 5, At: -1}}, true)
	same("as many as may be and more", slices.Repeat(l, 200), slices.Repeat(l, 200), true)
	a, _ := lex.Lex("a+1.5")
	b, _ := lex.Lex("//\n a\n /* */ + \r1.5")
	same("texts with other blanks", a, b, true)
	c, _ := lex.Lex("a+1.50")
	same("numbers of one value with other texts", a, c, false)
}

// R3: what is handed in is not changed, the room behind a list's end neither; what is answered is the caller's own.
func TestMemory(t *testing.T) {
	room := append(sound(), unsound()["zero"], word("behind"))
	l, kept := room[:len(room)-2], slices.Clone(room)
	lex.Print(l)
	lex.Check(l)
	lex.Same(l, room)
	if !slices.Equal(room, kept) {
		t.Error("a list that was handed in is another one now")
	}
	a, _ := lex.Lex("a b c")
	b, _ := lex.Lex("a b c")
	for i := range a {
		a[i] = api.Token{}
	}
	if len(b) != 3 || b[1] != set(word("b"), 2, 0) {
		t.Error("two answers share memory")
	}
}
