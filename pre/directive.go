package pre

import (
	"paintbox/api"
	"paintbox/lex"
)

// obey does what the tokens behind a directive's # say; false, if that is no directive, or one that may not be there. The words of parts go ahead, for they are looked at in lines that do not count, too.
func (r *reader) obey(line []api.Token, first bool) bool {
	if len(line) == 0 {
		return true
	}
	name, rest := line[0].Text, line[1:]
	switch name {
	case "ifdef", "ifndef":
		return r.open(rest, name == "ifdef")
	case "else":
		return r.turn()
	case "endif":
		return r.end()
	}
	if !r.counts() {
		return true
	}
	switch name {
	case "version":
		return first && lex.Same(rest, whole(100))
	case "define":
		return r.define(rest)
	case "undef":
		return r.undef(rest)
	}
	return false
}

// open begins a part that counts, if what the word stands for is as it is wanted. Where lines do not count the word is not asked, and neither half counts.
func (r *reader) open(rest []api.Token, wanted bool) bool {
	if !r.counts() {
		r.parts = append(r.parts, part{})
		return true
	}
	if !isWord(rest) {
		return false
	}
	_, stands := r.words[rest[0].Text]
	r.parts = append(r.parts, part{counts: stands == wanted, other: stands != wanted})
	return true
}

// turn begins the other half of the last part that is open.
func (r *reader) turn() bool {
	if len(r.parts) == 0 {
		return false
	}
	last := &r.parts[len(r.parts)-1]
	if last.turned {
		return false
	}
	last.counts, last.turned = last.other, true
	return true
}

// end ends the last part that is open.
func (r *reader) end() bool {
	if len(r.parts) == 0 {
		return false
	}
	r.parts = r.parts[:len(r.parts)-1]
	return true
}

// define lets a word stand for the tokens behind it, be there none of them.
func (r *reader) define(rest []api.Token) bool {
	if len(rest) == 0 || !Fresh(rest[0].Text) {
		return false
	}
	word := rest[0].Text
	if _, stands := r.words[word]; stands {
		return false
	}
	r.words[word] = rest[1:]
	return true
}

// undef lets a word stand for nothing any more, whether it stood for something or not.
func (r *reader) undef(rest []api.Token) bool {
	if !isWord(rest) || !Fresh(rest[0].Text) {
		return false
	}
	delete(r.words, rest[0].Text)
	return true
}
