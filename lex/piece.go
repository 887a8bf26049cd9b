package lex

import (
	"strings"

	"paintbox/api"
	"paintbox/fix"
)

// What a piece of a text may be beside a token, whose kinds api numbers.
const (
	gap    = -1 - iota // blanks, or a comment
	broken             // a comment without an end, or a byte with which no token begins
)

// maxInt is the greatest int that is a number.
const maxInt = 32767

// piece answers what a text of at least one byte begins with, and how many bytes that has. Comments go ahead of signs, for a slash is one.
func piece(text string) (kind, size int) {
	switch {
	case isBlank(text[0]):
		return gap, run(text, isBlank)
	case strings.HasPrefix(text, "//"):
		return gap, run(text, isWithinLine)
	case strings.HasPrefix(text, "/*"):
		return comment(text)
	case isLetter(text[0]):
		return api.TokWord, run(text, isWord)
	case isDigit(text[0]), text[0] == '.' && begins(text[1:], isDigit):
		return number(text)
	}
	return sign(text)
}

// comment answers the comment with a slash and a star with which a text begins. It ends behind these two bytes at the soonest, for their star is not the end's.
func comment(text string) (kind, size int) {
	end := strings.Index(text[2:], "*/")
	if end < 0 {
		return broken, len(text)
	}
	return gap, 2 + end + 2
}

// number answers the number with which a text begins: a second point does not belong to it.
func number(text string) (kind, size int) {
	kind = api.TokInt
digits:
	size += run(text[size:], isDigit)
	if kind == api.TokInt && begins(text[size:], isPoint) {
		kind = api.TokFloat
		size++
		goto digits
	}
	return kind, size
}

// sign answers the sign with which a text begins; the longer ones go ahead.
func sign(text string) (kind, size int) {
	switch text[:min(2, len(text))] {
	case "==", "!=", "<=", ">=", "&&", "||", "++", "--", "+=", "-=", "*=", "/=":
		return api.TokSign, 2
	}
	switch text[0] {
	case '(', ')', '[', ']', '{', '}', '.', ',', ';', ':', '?', '+', '-', '*', '/', '<', '>', '=', '!', '#':
		return api.TokSign, 1
	}
	return broken, 1
}

// tell answers the token of this kind and text, without its place, or what is wrong with it: of one token ErrLex goes ahead of ErrLong, and both of ErrNumber. It is asked what stands right behind it, and how many tokens ahead of it.
func tell(kind int, text, behind string, ahead int) (api.Token, api.Errno) {
	if kind == broken || isSpoilt(kind, text, behind) {
		return api.Token{}, api.ErrLex
	}
	if ahead == api.MaxTokens {
		return api.Token{}, api.ErrLong
	}
	num, err := measure(kind, text)
	return api.Token{Kind: kind, Text: text, Num: num}, err
}

// isSpoilt tells whether this is a number that something runs into, or an int with a nought ahead.
func isSpoilt(kind int, text, behind string) bool {
	switch kind {
	case api.TokInt:
		return begins(behind, isLetter) || len(text) > 1 && text[0] == '0'
	case api.TokFloat:
		return begins(behind, isLetter) || begins(behind, isPoint)
	}
	return false
}

// measure answers the number of a token, or which limit it passes. How long a float may be is fix's limit.
func measure(kind int, text string) (api.Fix, api.Errno) {
	switch kind {
	case api.TokWord:
		if len(text) > api.MaxWord {
			return 0, api.ErrLong
		}
	case api.TokInt:
		if n := value(text); n <= maxInt {
			return fix.Of(n), api.OK
		}
		return 0, api.ErrNumber
	case api.TokFloat:
		return fix.Parse(text)
	}
	return 0, api.OK
}

// value answers the value of digits; of those that are too great one that is too great, for there may be more of them than an int holds.
func value(digits string) int {
	n := 0
	for i := range len(digits) {
		n = min(10*n+int(digits[i]-'0'), maxInt+1)
	}
	return n
}

// run answers how many bytes of this sort a text begins with.
func run(text string, is func(byte) bool) int {
	n := 0
more:
	if n < len(text) && is(text[n]) {
		n++
		goto more
	}
	return n
}

// begins tells whether a text begins with a byte of this sort.
func begins(text string, is func(byte) bool) bool {
	return len(text) > 0 && is(text[0])
}

// isBlank tells whether a byte parts tokens.
func isBlank(b byte) bool {
	return b >= 9 && b <= 13 || b == ' '
}

// isWithinLine tells whether a byte is no line feed.
func isWithinLine(b byte) bool {
	return b != '\n'
}

// isLetter tells whether a word may begin with a byte.
func isLetter(b byte) bool {
	return b >= 'a' && b <= 'z' || b >= 'A' && b <= 'Z' || b == '_'
}

// isDigit tells whether a byte is a digit.
func isDigit(b byte) bool {
	return b >= '0' && b <= '9'
}

// isWord tells whether a word may go on with a byte.
func isWord(b byte) bool {
	return isLetter(b) || isDigit(b)
}

// isPoint tells whether a byte is a point.
func isPoint(b byte) bool {
	return b == '.'
}
