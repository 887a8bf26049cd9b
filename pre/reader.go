package pre

import (
	"strconv"

	"paintbox/api"
	"paintbox/lex"
)

// reader is how far a text has been read: what each word stands for, which parts are open (the last one within all others), and the tokens that are told.
type reader struct {
	words map[string][]api.Token
	parts []part
	told  []api.Token
}

// part is what stands between an ifdef, or an ifndef, and its endif: whether the half that is open counts, with all that is around it, whether the other half would, and whether there was an else.
type part struct {
	counts, other, turned bool
}

// begin answers a reader that knows what words stand for at first.
func begin() *reader {
	return &reader{words: map[string][]api.Token{"GL_ES": whole(1), "__VERSION__": whole(100)}}
}

// whole answers the token of an int, without its place.
func whole(n int) []api.Token {
	l, _ := lex.Lex(strconv.Itoa(n))
	return l
}

// read goes through all lines, and answers what is wrong first. All that comes of a line gets its Line, so __LINE__ stands for one int there.
func (r *reader) read(list []api.Token) (wrong api.Spot) {
lines:
	for i, line := range Lines(list) {
		r.words["__LINE__"] = whole(line[0].Line + 1)
		if line[0].Text == "#" {
			if !r.obey(line[1:], i == 0) {
				wrong = api.Spot{Err: api.ErrPre, At: line[0].At}
				break lines
			}
			continue lines
		}
		if !r.counts() {
			continue lines
		}
		for _, token := range line {
			if !r.tell(token) {
				wrong = api.Spot{Err: api.ErrLong, At: token.At}
				break lines
			}
		}
	}
	return wrong
}

// tell adds a token of the text to those that are told, or what comes of it, if it is replaced; false, if that is more than may be.
func (r *reader) tell(token api.Token) bool {
	within := map[string]struct{}{}
	replaced := 0
	var add func(api.Token) bool
	add = func(x api.Token) bool {
		meant, stands := r.words[x.Text]
		if _, own := within[x.Text]; own || !stands {
			x.At, x.Line = token.At, token.Line
			r.told = append(r.told, x)
			return len(r.told) <= api.MaxTokens
		}
		// Words that stand for nothing but one another add no token, but may double with each of them.
		if replaced++; replaced > api.MaxTokens {
			return false
		}
		within[x.Text] = struct{}{}
		defer delete(within, x.Text)
		for _, y := range meant {
			if !add(y) {
				return false
			}
		}
		return true
	}
	return add(token)
}

// counts tells whether a line counts that stands here.
func (r *reader) counts() bool {
	return len(r.parts) == 0 || r.parts[len(r.parts)-1].counts
}
