package lex_test

import (
	"slices"
	"strconv"
	"strings"
	"testing"

	"paintbox/api"
	"paintbox/fix"
	"paintbox/lex"
)

// What Lex tells of tokens, without their places.
func word(text string) api.Token { return api.Token{Kind: api.TokWord, Text: text} }
func sign(text string) api.Token { return api.Token{Kind: api.TokSign, Text: text} }
func whole(text string, n api.Fix) api.Token {
	return api.Token{Kind: api.TokInt, Text: text, Num: n * api.One}
}
func float(text string, raw api.Fix) api.Token {
	return api.Token{Kind: api.TokFloat, Text: text, Num: raw}
}

// set answers a token at a place.
func set(token api.Token, at, line int) api.Token {
	token.At, token.Line = at, line
	return token
}

// short answers a text for a report: of a long one its begin and its length.
func short(text string) string {
	if len(text) > 80 {
		return strconv.Quote(text[:80]) + " and on, " + strconv.Itoa(len(text)) + " bytes"
	}
	return strconv.Quote(text)
}

// told looks that Lex tells just these tokens, places and all.
func told(t *testing.T, text string, want ...api.Token) {
	t.Helper()
	got, spot := lex.Lex(text)
	if spot != (api.Spot{}) || !slices.Equal(got, want) {
		t.Errorf("Lex(%s) = %v, %v; want %v", short(text), got, spot, want)
	}
}

// reads looks that Lex tells just these tokens, wherever they stand.
func reads(t *testing.T, text string, want ...api.Token) {
	t.Helper()
	got, spot := lex.Lex(text)
	if spot != (api.Spot{}) || len(got) != len(want) {
		t.Fatalf("Lex(%s) = %v, %v; want %v", short(text), got, spot, want)
	}
	for i, token := range got {
		if set(token, 0, 0) != want[i] {
			t.Errorf("Lex(%s): token %d is %v; want %v", short(text), i, token, want[i])
		}
	}
}

// refused looks that Lex refuses a text for this reason, at this place, with nothing beside it.
func refused(t *testing.T, text string, err api.Errno, at int) {
	t.Helper()
	got, spot := lex.Lex(text)
	if len(got) != 0 || spot != (api.Spot{Err: err, At: at}) {
		t.Errorf("Lex(%s) = %d tokens, %v; want nothing, {%d %d}", short(text), len(got), spot, err, at)
	}
}

// times answers a text that stands there n times.
func times(n int, text string) string { return strings.Repeat(text, n) }

// P10.1: the chapter's examples.
func TestExamples(t *testing.T) {
	told(t, "a1+=.5;", set(word("a1"), 0, 0), set(sign("+="), 2, 0), set(float(".5", 32768), 4, 0), set(sign(";"), 6, 0))
	told(t, "v.x // c", set(word("v"), 0, 0), set(sign("."), 1, 0), set(word("x"), 2, 0))
	told(t, "a /* \n */ b", set(word("a"), 0, 0), set(word("b"), 10, 1))
	for _, text := range []string{"1.2.3", "1a", "007", "@", "/*"} {
		refused(t, text, api.ErrLex, 0)
	}
	refused(t, "32768", api.ErrNumber, 0)
	refused(t, times(33, "a"), api.ErrLong, 0)
}

// P10.1: texts in which there is no token.
func TestNothing(t *testing.T) {
	for _, text := range []string{
		"", " ", "\n", "\t\n\v\f\r ", "//", "// a", "//\n", "//\n//", "/**/", "/* a */", "/***/", "/*/*/", " /* */ // */",
		"/*\n\n*/\n", "//@\n", "/*@*/", "//\x00\xff", "/*\x00\xff*/", "// /*", "///*", "/*//*/", "/**//**/", "/**///",
		times(api.MaxText, " "), times(api.MaxText, "\n"), times(api.MaxText, "/"), "/*" + times(api.MaxText-4, "*") + "*/",
	} {
		told(t, text)
	}
}

// P10.1: a text of MaxText bytes is taken, one of one more is refused at 0, whatever else is wrong with it.
func TestMaxText(t *testing.T) {
	told(t, times(api.MaxText-1, " ")+"a", set(word("a"), api.MaxText-1, 0))
	told(t, times(api.MaxText-1, "\n")+"a", set(word("a"), api.MaxText-1, api.MaxText-1))
	refused(t, times(api.MaxText-1, " ")+"@", api.ErrLex, api.MaxText-1)
	refused(t, times(api.MaxText, "@"), api.ErrLex, 0)
	for _, text := range []string{" ", "@", "/", "a", "1", "0", ";", "\n", "/*", "é"} {
		refused(t, times(api.MaxText/len(text)+1, text), api.ErrLong, 0)
		refused(t, times(1<<20, text), api.ErrLong, 0)
	}
	refused(t, "@"+times(api.MaxText, " "), api.ErrLong, 0)
	refused(t, times(api.MaxText, " ")+"@", api.ErrLong, 0)
}

// P10.1: of all bytes these alone part tokens and are let out: 9 to 13, and 32.
func TestBlanks(t *testing.T) {
	for b := range 256 {
		blank := b >= 9 && b <= 13 || b == 32
		c := string([]byte{byte(b)})
		if !blank {
			if l, spot := lex.Lex(c); spot == (api.Spot{}) && len(l) == 0 {
				t.Errorf("byte %d is let out", b)
			}
			continue
		}
		line := 0
		if b == 10 {
			line = 1
		}
		told(t, c)
		told(t, c+"a"+c+"b", set(word("a"), 1, line), set(word("b"), 3, 2*line))
		told(t, "1"+c+"a", set(whole("1", 1), 0, 0), set(word("a"), 2, line))
		told(t, "+"+c+"+", set(sign("+"), 0, 0), set(sign("+"), 2, line))
		told(t, "/"+c+"/", set(sign("/"), 0, 0), set(sign("/"), 2, line))
		told(t, "."+c+"5", set(sign("."), 0, 0), set(whole("5", 5), 2, line))
	}
}

// ones are the signs of one byte, twos those of two.
func ones() []string { return strings.Split("( ) [ ] { } . , ; : ? + - * / < > = ! #", " ") }
func twos() []string { return strings.Split("== != <= >= && || ++ -- += -= *= /=", " ") }

// P10.1: each byte alone: a sign, a word, an int, a blank, or a byte with which no token begins.
func TestEachByte(t *testing.T) {
	for b := range 256 {
		c := string([]byte{byte(b)})
		switch {
		case b >= 9 && b <= 13 || b == 32:
			told(t, c)
		case b >= '0' && b <= '9':
			told(t, c, whole(c, api.Fix(b-'0')))
		case b >= 'a' && b <= 'z', b >= 'A' && b <= 'Z', b == '_':
			told(t, c, word(c))
		case slices.Contains(ones(), c):
			told(t, c, sign(c))
		default:
			refused(t, c, api.ErrLex, 0)
			refused(t, "a"+c, api.ErrLex, 1)
			refused(t, "1"+c, api.ErrLex, 1)
			refused(t, "1."+c, api.ErrLex, 2)
			refused(t, ";\n"+c+"a", api.ErrLex, 2)
			refused(t, c+" "+c, api.ErrLex, 0)
			refused(t, c+times(33, "a"), api.ErrLex, 0)
		}
	}
}

// P10.1: any two bytes of signs and of what is none: a sign of two bytes, if they are one, else what each of them is.
func TestSigns(t *testing.T) {
	bytes := append(ones(), "&", "|", "@", "%", "^", "~")
	for _, a := range bytes {
		for _, b := range bytes {
			c := a + b
			switch {
			case c == "//":
				told(t, c)
			case c == "/*":
				refused(t, c, api.ErrLex, 0)
			case slices.Contains(twos(), c):
				told(t, c, sign(c))
			case !slices.Contains(ones(), a):
				refused(t, c, api.ErrLex, 0)
			case !slices.Contains(ones(), b):
				refused(t, c, api.ErrLex, 1)
			default:
				told(t, c, sign(a), set(sign(b), 1, 0))
			}
		}
	}
}

// P10.1: signs that run together are told from the left, the longer one ahead.
func TestSignsTogether(t *testing.T) {
	for text, want := range map[string]string{
		"===": "== =", "====": "== ==", "+++": "++ +", "---=": "-- -=", "+++=": "++ +=", "<<=": "< <=", ">>=": "> >=", "!==": "!= =",
		"&&&&": "&& &&", "||||": "|| ||", "=!=": "= !=", "!!=": "! !=", "*/": "* /", "*/=": "* /=", "**=": "* *=", "..": ". .", "=+": "= +",
		"+-": "+ -", "-+=": "- +=", "+=+": "+= +", "/=/": "/= /", "/=*": "/= *", "([{}])": "( [ { } ] )", "::": ": :", "##": "# #", "<>": "< >",
		"=<": "= <", "=>": "= >", "?:": "? :", "<=>": "<= >", "=-=": "= -=", "/==": "/= =", "*==": "*= =",
	} {
		var list []api.Token
		for _, s := range strings.Split(want, " ") {
			list = append(list, sign(s))
		}
		reads(t, text, list...)
	}
	refused(t, "&&&", api.ErrLex, 2)
	refused(t, "|||", api.ErrLex, 2)
	refused(t, "& &", api.ErrLex, 0)
	refused(t, "a&b", api.ErrLex, 1)
	refused(t, "a|=b", api.ErrLex, 1)
	reads(t, "a++b", word("a"), sign("++"), word("b"))
	reads(t, "a-1", word("a"), sign("-"), whole("1", 1))
	reads(t, "1-1", whole("1", 1), sign("-"), whole("1", 1))
	reads(t, "-.5", sign("-"), float(".5", 32768))
	reads(t, "#define A", sign("#"), word("define"), word("A"))
}

// P10.1: comments of both kinds part tokens, and end where they are said to.
func TestComments(t *testing.T) {
	a := word("a")
	told(t, "a//b", a)
	told(t, "a//", a)
	told(t, "a//b\nc", a, set(word("c"), 5, 1))
	told(t, "//\na", set(a, 3, 1))
	told(t, "//\ra")
	told(t, "// b\\\na", set(a, 6, 1))
	told(t, "a// /*\nb", a, set(word("b"), 7, 1))
	told(t, "a//*\nb*/c", a, set(word("b"), 5, 1), set(sign("*"), 6, 1), set(sign("/"), 7, 1), set(word("c"), 8, 1))
	told(t, "a/**/b", a, set(word("b"), 5, 0))
	told(t, "a/***/b", a, set(word("b"), 6, 0))
	told(t, "a/****/b", a, set(word("b"), 7, 0))
	told(t, "a/*/*/b", a, set(word("b"), 6, 0))
	told(t, "a/*/**/b", a, set(word("b"), 7, 0))
	told(t, "a/* /* */b", a, set(word("b"), 9, 0))
	told(t, "a/**/*/b", a, set(sign("*"), 5, 0), set(sign("/"), 6, 0), set(word("b"), 7, 0))
	told(t, "a/* */ */", a, set(sign("*"), 7, 0), set(sign("/"), 8, 0))
	told(t, "a/* // */b", a, set(word("b"), 9, 0))
	told(t, "a/*//\n*/b", a, set(word("b"), 8, 1))
	told(t, "a/**//b", a, set(sign("/"), 5, 0), set(word("b"), 6, 0))
	told(t, "a/**///b", a)
	told(t, "a/**//**/b", a, set(word("b"), 9, 0))
	told(t, "a/*\n*/b/*\n\n*/c//\nd", a, set(word("b"), 6, 1), set(word("c"), 13, 3), set(word("d"), 17, 4))
	told(t, "/*@ 007 1a \x00\xff*/a", set(a, 15, 0))
	told(t, "1/**/a", whole("1", 1), set(a, 5, 0))
	told(t, "1//\n.", whole("1", 1), set(sign("."), 4, 1))
	told(t, "+/**/+", sign("+"), set(sign("+"), 5, 0))
	told(t, "//"+times(api.MaxText-2, "a"))
	told(t, "/ /", sign("/"), set(sign("/"), 2, 0))
	told(t, "/ *", sign("/"), set(sign("*"), 2, 0))
	told(t, "* /", sign("*"), set(sign("/"), 2, 0))
}

// P10.1: a comment with a star that has no end is refused where it begins.
func TestNoEnd(t *testing.T) {
	for _, text := range []string{"/*", "/*/", "/* ", "/**", "/***", "/* *", "/* /", "/* * /", "/*\n", "/* //", "/*//", "/* /* ", "/*/ "} {
		refused(t, text, api.ErrLex, 0)
		refused(t, "a "+text, api.ErrLex, 2)
		refused(t, "/* @ */"+text, api.ErrLex, 7)
		refused(t, "//\n"+text, api.ErrLex, 3)
		refused(t, "1"+text, api.ErrLex, 1)
	}
	refused(t, "/*"+times(api.MaxText-2, "*"), api.ErrLex, 0)
	refused(t, "/*"+times(api.MaxText-3, " ")+"/", api.ErrLex, 0)
}

// P10.1: words, of all letters, of 32 bytes and of 33.
func TestWords(t *testing.T) {
	for _, text := range []string{"a", "_", "Z", "_1", "a1", "__", "a_b", "aZ09_", "e5", "x0x", "gl_FragColor", "abcdefghijklmnopqrstuvwxyz", "ABCDEFGHIJKLMNOPQRSTUVWXYZ", "_0123456789"} {
		told(t, text, word(text))
		told(t, " "+text+";", set(word(text), 1, 0), set(sign(";"), 1+len(text), 0))
	}
	for _, c := range []string{"a", "Z", "_", "9"} {
		told(t, "a"+times(31, c), word("a"+times(31, c)))
		refused(t, "a"+times(32, c), api.ErrLong, 0)
		refused(t, "\n;a"+times(32, c)+" @", api.ErrLong, 2)
		refused(t, "a"+times(api.MaxText-1, c), api.ErrLong, 0)
	}
	told(t, times(32, "a")+"."+times(32, "b"), word(times(32, "a")), set(sign("."), 32, 0), set(word(times(32, "b")), 33, 0))
	refused(t, "aé", api.ErrLex, 1)
	refused(t, "é", api.ErrLex, 0)
	refused(t, times(33, "a")+"é", api.ErrLong, 0)
}

// P10.1: numbers, with a point ahead, behind, among their digits, and none.
func TestNumbers(t *testing.T) {
	for _, n := range []int{0, 1, 9, 10, 99, 100, 1000, 9999, 10000, 12345, 32766, 32767} {
		text := strconv.Itoa(n)
		told(t, text, whole(text, api.Fix(n)))
	}
	for text, raw := range map[string]api.Fix{
		"0.": 0, ".0": 0, "0.0": 0, "1.": api.One, ".5": 32768, "1.5": 98304, "00.5": 32768, "007.": 7 * api.One, "0.25": 16384,
		"32767.": 32767 * api.One, "32768.": api.Most, "32767.99999": api.Most, "99999999.0": api.Most, ".00001": 1, ".000001": 0, "1.00": api.One, "0.00000762939453125": 1,
	} {
		told(t, text, float(text, raw))
		told(t, "-"+text+";", sign("-"), set(float(text, raw), 1, 0), set(sign(";"), 1+len(text), 0))
	}
	told(t, "v.5", word("v"), set(float(".5", 32768), 1, 0))
	told(t, "v.x5", word("v"), set(sign("."), 1, 0), set(word("x5"), 2, 0))
	told(t, "..5", sign("."), set(float(".5", 32768), 1, 0))
	told(t, "...", sign("."), set(sign("."), 1, 0), set(sign("."), 2, 0))
	told(t, ".", sign("."))
	told(t, ").5", sign(")"), set(float(".5", 32768), 1, 0))
	told(t, "1 .", whole("1", 1), set(sign("."), 2, 0))
	told(t, "1. .", float("1.", api.One), set(sign("."), 3, 0))
	told(t, "1 .5", whole("1", 1), set(float(".5", 32768), 2, 0))
	told(t, "0 0", whole("0", 0), set(whole("0", 0), 2, 0))
	told(t, "1+2", whole("1", 1), set(sign("+"), 1, 0), set(whole("2", 2), 2, 0))
	told(t, "1,2.,.3", whole("1", 1), set(sign(","), 1, 0), set(float("2.", 2*api.One), 2, 0), set(sign(","), 4, 0), set(float(".3", 19661), 5, 0))
}

// P10.1: numbers that something runs into, and ints with noughts ahead.
func TestSpoilt(t *testing.T) {
	for _, text := range []string{
		"1a", "1_", "1Z", "0x10", "1e5", "1.e", "1._", "1.5f", ".5f", ".5_", "1..", "1..2", "1.2.", "1.2.3", ".5.", ".5.5", ".5..", "0..", "1.x", "1.X",
		"00", "007", "01", "09", "0000000", "00000000000000000001", "01a", "00.5.", "0.0.0", "32768a", "99999999999999999999a",
	} {
		refused(t, text, api.ErrLex, 0)
		refused(t, text+" @", api.ErrLex, 0)
		refused(t, "a\n"+text, api.ErrLex, 2)
		refused(t, "a;"+text+"/*", api.ErrLex, 2)
	}
	for b := range 256 {
		c := string([]byte{byte(b)})
		_, alone := lex.Lex("1 " + c)
		for _, n := range []string{"1", "1.", ".1"} {
			if b == '.' && n != "1" || b == '_' || b >= 'a' && b <= 'z' || b >= 'A' && b <= 'Z' {
				refused(t, n+c, api.ErrLex, 0)
			} else if _, spot := lex.Lex(n + c); spot.Err != alone.Err || spot.Err != api.OK && spot.At != len(n) {
				t.Errorf("Lex(%q): %v", n+c, spot)
			}
		}
	}
}

// P10.1: ints that are too great, of however many digits: those that begin with 0 are no ints at all.
func TestGreatInts(t *testing.T) {
	for _, text := range []string{
		"32768", "32769", "32770", "40000", "65536", "99999", "100000", "327670", "4294967296", "4294967297", "9223372036854775807", "9223372036854775808",
		"18446744073709551616", "18446744073709551617", "18446744073709584383", "1" + times(40, "0"), times(41, "1"), times(api.MaxText, "9"),
	} {
		refused(t, text, api.ErrNumber, 0)
	}
	refused(t, "a 32768 @", api.ErrNumber, 2)
	refused(t, "a 32768a", api.ErrLex, 2)
	refused(t, times(api.MaxText, "0"), api.ErrLex, 0)
	refused(t, "032768", api.ErrLex, 0)
	refused(t, "00032767", api.ErrLex, 0)
	told(t, "32768.0", float("32768.0", api.Most))
}

// P10.1: floats of 40 bytes and of 41, with the point ahead, behind, among.
func TestLongFloats(t *testing.T) {
	for _, text := range []string{"." + times(39, "1"), times(39, "1") + ".", "1." + times(38, "0"), times(20, "0") + "." + times(19, "5"), times(39, "0") + "."} {
		raw, err := fix.Parse(text)
		if len(text) != 40 || err != api.OK {
			t.Fatal(text)
		}
		told(t, text, float(text, raw))
		refused(t, "1"+text, api.ErrLong, 0)
		refused(t, ";1"+text+" @", api.ErrLong, 1)
		refused(t, "1"+text+"a", api.ErrLex, 0)
		refused(t, "1"+text+".", api.ErrLex, 0)
		refused(t, text+"_", api.ErrLex, 0)
	}
	refused(t, times(41, "9")+".", api.ErrLong, 0)
	refused(t, "."+times(api.MaxText-1, "0"), api.ErrLong, 0)
	refused(t, times(api.MaxText-1, "0")+".", api.ErrLong, 0)
}

// P10.1: MaxTokens tokens are taken, one more is refused where it begins.
func TestMaxTokens(t *testing.T) {
	for _, c := range []string{";", "a ", "1\n", ".5 ", "++"} {
		text := times(api.MaxTokens, c)
		l, spot := lex.Lex(text)
		if spot != (api.Spot{}) || len(l) != api.MaxTokens {
			t.Fatalf("Lex of MaxTokens times %q: %d tokens, %v", c, len(l), spot)
		}
		for _, more := range []string{"; ", "a", "1", ".5", "32767", "32768", times(33, "a"), times(41, "1") + "."} {
			refused(t, text+" /* */"+more, api.ErrLong, len(text)+6)
		}
		for _, more := range []string{"@", "/*", "1a", "1..", "007", "\x00", "/*/"} {
			refused(t, text+" "+more, api.ErrLex, len(text)+1)
			refused(t, text+" ; "+more, api.ErrLong, len(text)+1)
		}
		for _, more := range []string{"", " ", "//", "/* @ */", "\n// @\n"} {
			if l, spot := lex.Lex(text + more); spot != (api.Spot{}) || len(l) != api.MaxTokens {
				t.Errorf("Lex of MaxTokens times %q and %q: %d tokens, %v", c, more, len(l), spot)
			}
		}
	}
}

// P10.1: of two tokens that are wrong the first one counts, whatever the errors.
func TestWhichFirst(t *testing.T) {
	wrong := map[string]api.Errno{
		"@": api.ErrLex, "1a": api.ErrLex, "007": api.ErrLex, "1..": api.ErrLex, "32768": api.ErrNumber,
		times(33, "a"): api.ErrLong, times(41, "1") + ".": api.ErrLong, "&": api.ErrLex, "\xff": api.ErrLex,
	}
	for a, err := range wrong {
		refused(t, a, err, 0)
		refused(t, a+" /*", err, 0)
		refused(t, "/* */ "+a, err, 6)
		refused(t, "/* "+a, api.ErrLex, 0)
		for b := range wrong {
			refused(t, a+" "+b, err, 0)
			refused(t, "x;\n"+a+"\n"+b, err, 3)
		}
	}
	for _, text := range []string{"32768a", "32768_", times(41, "1") + ".a", times(41, "1") + "..", "0" + times(9, "9"), "32768" + times(33, "a")} {
		refused(t, text, api.ErrLex, 0)
	}
}

// P10.1: At and Line of each token: line feeds count wherever they stand, carriage returns never.
func TestPlaces(t *testing.T) {
	told(t, "a\nb\n\nc", word("a"), set(word("b"), 2, 1), set(word("c"), 5, 3))
	told(t, "\n\n a b", set(word("a"), 3, 2), set(word("b"), 5, 2))
	told(t, "a\r\nb\rc\vd", word("a"), set(word("b"), 3, 1), set(word("c"), 5, 1), set(word("d"), 7, 1))
	told(t, "a // \n// \n b", word("a"), set(word("b"), 11, 2))
	told(t, "/*\n*/a/*\n\n*/1.5\n;", set(word("a"), 5, 1), set(float("1.5", 98304), 12, 3), set(sign(";"), 16, 4))
	told(t, "12 345\n.5++\n_x", whole("12", 12), set(whole("345", 345), 3, 0), set(float(".5", 32768), 7, 1), set(sign("++"), 9, 1), set(word("_x"), 12, 2))
	l, _ := lex.Lex(times(1000, "/*\n*/\na "))
	for i, token := range l {
		if token.At != 8*i+6 || token.Line != 2*i+2 {
			t.Fatalf("token %d: %v", i, token)
		}
	}
}
