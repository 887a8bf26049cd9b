package lex_test

import (
	"regexp"
	"slices"
	"strings"
	"testing"

	"paintbox/api"
	"paintbox/fix"
	"paintbox/lex"
)

// The chapter's words, as expressions: what stands between tokens, and tokens by their kinds.
var (
	between = regexp.MustCompile(`^(?:[\x09-\x0d ]|//[^\n]*|/\*(?s:.*?)\*/)`)
	endless = regexp.MustCompile(`^/\*`)
	tokens  = []*regexp.Regexp{
		regexp.MustCompile(`^[A-Za-z_][A-Za-z0-9_]*`),
		regexp.MustCompile(`^[0-9]+`),
		regexp.MustCompile(`^(?:[0-9]+\.[0-9]*|\.[0-9]+)`),
		regexp.MustCompile(`^(?:==|!=|<=|>=|&&|\|\||\+\+|--|\+=|-=|\*=|/=|[()\[\]{}.,;:?+\-*/<>=!#])`),
	}
	spoilers = regexp.MustCompile(`^[A-Za-z_.]`)
)

// longest answers the token that a text begins with: of all kinds the one of the most bytes; kind 0, if there is none.
func longest(text string) (kind int, found string) {
	for i, one := range tokens {
		if s := one.FindString(text); len(s) > len(found) {
			kind, found = i+1, s
		}
	}
	return kind, found
}

// digits answers the value of an int's text, or 99999 of one that is greater.
func digits(text string) int {
	n := 0
	for _, r := range text {
		if n = 10*n + int(r-'0'); n > 99999 {
			n = 99999
		}
	}
	return n
}

// fault answers what is wrong with a token, with n tokens ahead of it, by the chapter's order.
func fault(kind int, text, behind string, n int) api.Errno {
	number := kind == api.TokInt || kind == api.TokFloat
	switch {
	case kind == 0:
		return api.ErrLex
	case number && spoilers.MatchString(behind):
		return api.ErrLex
	case kind == api.TokInt && len(text) > 1 && text[0] == '0':
		return api.ErrLex
	case kind == api.TokWord && len(text) > 32, kind == api.TokFloat && len(text) > 40, n >= 2048:
		return api.ErrLong
	case kind == api.TokInt && digits(text) > 32767:
		return api.ErrNumber
	}
	return api.OK
}

// model is Lex in the chapter's words.
func model(text string) ([]api.Token, api.Spot) {
	if len(text) > 8192 {
		return nil, api.Spot{Err: api.ErrLong}
	}
	var l []api.Token
	for at := 0; at < len(text); {
		if s := between.FindString(text[at:]); s != "" {
			at += len(s)
			continue
		}
		if endless.MatchString(text[at:]) {
			return nil, api.Spot{Err: api.ErrLex, At: at}
		}
		kind, s := longest(text[at:])
		if err := fault(kind, s, text[at+len(s):], len(l)); err != api.OK {
			return nil, api.Spot{Err: err, At: at}
		}
		token := api.Token{Kind: kind, Text: s, At: at, Line: strings.Count(text[:at], "\n")}
		switch kind {
		case api.TokInt:
			token.Num = fix.Of(digits(s))
		case api.TokFloat:
			token.Num, _ = fix.Parse(s)
		}
		l = append(l, token)
		at += len(s)
	}
	return l, api.Spot{}
}

// chance tells numbers that look like chance, and are always the same.
type chance uint64

func (c *chance) below(n int) int {
	*c = *c*6364136223846793005 + 1442695040888963407
	return int(uint64(*c) >> 33 % uint64(n))
}

// pieces are what chance texts are made of: the first n of them are tokens, or what parts them.
func pieces() (list []string, n int) {
	list = append(ones(), twos()...)
	list = append(list, "a", "_x", "Zz9", "e", "0", "1", "9", "10", "32767", "1.", ".5", "0.5", "00.", " ", " ", "\n", "\t", "//", "//c\n", "/**/", "/*\n*/", "/* * / */", times(32, "w"), "."+times(39, "3"))
	n = len(list)
	return append(list, "/*", "*/", "@", "&", "|", "\x00", "\x80", "\xc3\xa9", "007", "00", "32768", "99999999999999999999", times(33, "w"), "."+times(40, "3"), "%", "'", "\"", "\\", "$"), n
}

// text answers a chance text of up to most pieces; a wild one may have pieces that are wrong.
func (c *chance) text(most int, wild bool) string {
	list, n := pieces()
	if wild {
		n = len(list)
	}
	s := ""
	for range c.below(most + 1) {
		s += list[c.below(n)]
	}
	return s
}

// agrees holds Lex against the model.
func agrees(t *testing.T, text string) []api.Token {
	t.Helper()
	got, spot := lex.Lex(text)
	want, place := model(text)
	if spot != place || !slices.Equal(got, want) {
		t.Fatalf("Lex(%s) = %v, %v; want %v, %v", short(text), got, spot, want, place)
	}
	return got
}

// P10.1: chance texts of pieces, and of bytes.
func TestChanceTexts(t *testing.T) {
	c := chance(10)
	taken := 0
	for i := range 30000 {
		if l := agrees(t, c.text(12, i%3 == 0)); len(l) > 0 {
			taken++
		}
	}
	if taken < 5000 {
		t.Errorf("only %d texts of tokens", taken)
	}
	const few = "/*/*.1.0a_+=\n -&|<!"
	for range 60000 {
		b := make([]byte, c.below(9))
		for i := range b {
			b[i] = few[c.below(len(few))]
		}
		agrees(t, string(b))
	}
	for range 5000 {
		b := make([]byte, c.below(6))
		for i := range b {
			b[i] = byte(c.below(256))
		}
		agrees(t, string(b))
	}
}

// P10.1: all texts of up to three bytes of those that mean something together.
func TestAllShortTexts(t *testing.T) {
	const bytes = "/*.10a_=+-<!&| \n@;"
	for _, a := range bytes {
		agrees(t, string(a))
		for _, b := range bytes {
			agrees(t, string(a)+string(b))
			for _, c := range bytes {
				agrees(t, string(a)+string(b)+string(c))
				for _, d := range "/*.1a" {
					agrees(t, string(a)+string(b)+string(c)+string(d))
				}
			}
		}
	}
}

// P10.1: long chance texts, about MaxTokens and MaxText.
func TestLongTexts(t *testing.T) {
	c := chance(11)
	for range 40 {
		text := ""
		for len(text) < 7000+c.below(2000) {
			l, n := pieces()
			text += l[c.below(n-24)] + " "
		}
		agrees(t, text)
	}
}

// P10.3: Lex of Print is the Same, and Print of that is Print, as long as it is no longer than MaxText.
func TestLexOfPrint(t *testing.T) {
	c := chance(12)
	for range 10000 {
		l, spot := lex.Lex(c.text(12, false))
		if spot != (api.Spot{}) {
			continue
		}
		for i := range l {
			if c.below(4) == 0 {
				l[i].At, l[i].Line = c.below(100)-50, c.below(9)-4
			}
		}
		text := lex.Print(l)
		back, spot := lex.Lex(text)
		if lex.Check(l) != api.OK || spot != (api.Spot{}) || !lex.Same(l, back) || lex.Print(back) != text {
			t.Fatalf("Lex of Print of %v: %v, %v", l, back, spot)
		}
	}
	for n := 1; n < api.MaxTokens; n *= 2 {
		l := slices.Repeat(sound(), (n+len(sound())-1)/len(sound()))
		back, spot := lex.Lex(lex.Print(l))
		if long := len(lex.Print(l)) > api.MaxText; long != (spot == api.Spot{Err: api.ErrLong}) || lex.Same(l, back) == long {
			t.Errorf("Lex of Print of %d tokens: %v", len(l), spot)
		}
	}
}

// P10.3: tokens stand in order, none within another one; between them, ahead and behind there are blanks and comments alone; Text is what stands At.
func TestBetween(t *testing.T) {
	c := chance(13)
	for range 10000 {
		text := c.text(12, false)
		l, spot := lex.Lex(text)
		if spot != (api.Spot{}) {
			continue
		}
		end := 0
		for _, token := range append(slices.Clone(l), api.Token{At: len(text)}) {
			if token.At < end || token.At+len(token.Text) > len(text) || text[token.At:token.At+len(token.Text)] != token.Text {
				t.Fatalf("Lex(%q): %v does not stand there", text, token)
			}
			if more, wrong := lex.Lex(text[end:token.At]); len(more) > 0 || wrong != (api.Spot{}) {
				t.Fatalf("Lex(%q): %q is let out", text, text[end:token.At])
			}
			end = token.At + len(token.Text)
		}
	}
}

// P10.3: blanks, and comments, that are put between two tokens change no Kind, Text, Num.
func TestBlanksBetween(t *testing.T) {
	c := chance(14)
	blanks := []string{" ", "\n", "\t", "\v\f", "\r\n", "   ", "/* a */", "//\n", " // 1\n "}
	for range 10000 {
		text := c.text(12, false)
		l, spot := lex.Lex(text)
		if spot != (api.Spot{}) {
			continue
		}
		wide, end := "", 0
		for _, token := range l {
			wide += text[end:token.At]
			for range c.below(3) {
				wide += " " + blanks[c.below(len(blanks))]
			}
			end = token.At + len(token.Text)
			wide += token.Text
		}
		wide += text[end:]
		if other, spot := lex.Lex(wide); spot != (api.Spot{}) || !lex.Same(l, other) {
			t.Fatalf("Lex(%q) = %v; Lex(%q) = %v, %v", text, l, wide, other, spot)
		}
	}
}
