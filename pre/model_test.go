package pre_test

import (
	"regexp"
	"slices"
	"strings"
	"testing"

	"paintbox/api"
	"paintbox/fix"
	"paintbox/lex"
	"paintbox/pre"
)

// model is Run in the chapter's words: it goes from part to part, each within its own call, and what is wrong leaves by panic, as a Spot.
type model struct {
	lines [][]api.Token
	next  int
	end   int
	words map[string][]api.Token
	told  []api.Token
}

// The directives that a line may be, as expressions of its Texts with blanks between.
var (
	isVersion = regexp.MustCompile(`^# version 100$`)
	isDefine  = regexp.MustCompile(`^# define ([A-Za-z_]\w*)( |$)`)
	isUndef   = regexp.MustCompile(`^# undef ([A-Za-z_]\w*)$`)
	isOpen    = regexp.MustCompile(`^# (ifn?def) ([A-Za-z_]\w*)$`)
	isParts   = regexp.MustCompile(`^# (ifdef|ifndef|else|endif)( |$)`)
	isBarred  = regexp.MustCompile(`^GL_|__`)
)

// run answers what Run must.
func run(text string) (l []api.Token, spot api.Spot) {
	tokens, spot := lex.Lex(text)
	if spot != (api.Spot{}) {
		return nil, spot
	}
	defer func() {
		if wrong, ok := recover().(api.Spot); ok {
			l, spot = nil, wrong
		}
	}()
	m := &model{end: len(text), words: map[string][]api.Token{"GL_ES": number("1", 1), "__VERSION__": number("100", 100), "__LINE__": nil}}
	for i := 0; i < len(tokens); {
		n := i
		for n < len(tokens) && tokens[n].Line == tokens[i].Line {
			n++
		}
		m.lines = append(m.lines, tokens[i:n])
		i = n
	}
	if m.half(true) != "" {
		m.fail(api.ErrPre, m.lines[m.next-1][0].At)
	}
	return m.told, api.Spot{}
}

// number answers the token of an int.
func number(text string, n int) []api.Token {
	return []api.Token{{Kind: api.TokInt, Text: text, Num: fix.Of(n)}}
}

func (m *model) fail(err api.Errno, at int) {
	panic(api.Spot{Err: err, At: at})
}

// half goes through lines to the else or the endif that ends them, and answers which; nothing at the end.
func (m *model) half(counts bool) string {
	for m.next < len(m.lines) {
		line := m.lines[m.next]
		m.next++
		text := brief(line)
		parts := isParts.FindStringSubmatch(text)
		switch {
		case parts != nil && parts[1][0] == 'e':
			return parts[1]
		case parts != nil:
			m.part(line, text, counts)
		case counts && line[0].Text == "#":
			m.directive(line, text)
		case counts:
			for _, token := range line {
				m.tell(token)
			}
		}
	}
	return ""
}

// part goes through both halves of a part, from its first line on.
func (m *model) part(line []api.Token, text string, counts bool) {
	first := counts
	if counts {
		open := isOpen.FindStringSubmatch(text)
		if open == nil {
			m.fail(api.ErrPre, line[0].At)
		}
		_, stands := m.words[open[2]]
		first = stands == (open[1] == "ifdef")
	}
	end := m.half(first)
	if end == "else" {
		if end = m.half(counts && !first); end == "else" {
			m.fail(api.ErrPre, m.lines[m.next-1][0].At)
		}
	}
	if end == "" {
		m.fail(api.ErrPre, m.end)
	}
}

// directive does what a line with a # says, in a line that counts.
func (m *model) directive(line []api.Token, text string) {
	if define := isDefine.FindStringSubmatch(text); define != nil && !isBarred.MatchString(define[1]) {
		if _, stands := m.words[define[1]]; !stands {
			m.words[define[1]] = line[3:]
			return
		}
	}
	undef := isUndef.FindStringSubmatch(text)
	switch {
	case text == "#", isVersion.MatchString(text) && m.next == 1:
	case undef != nil && !isBarred.MatchString(undef[1]):
		delete(m.words, undef[1])
	default:
		m.fail(api.ErrPre, line[0].At)
	}
}

// tell adds what comes of a token of the text.
func (m *model) tell(token api.Token) {
	words := 0
	l := m.replace(token, nil, &words)
	if words > 2048 || len(m.told)+len(l) > 2048 {
		m.fail(api.ErrLong, token.At)
	}
	for _, x := range l {
		x.At, x.Line = token.At, token.Line
		m.told = append(m.told, x)
	}
}

// replace answers what comes of a token; outer are the words within whose replacing it is, words how many are replaced by now. What is too much is not gone into any further.
func (m *model) replace(token api.Token, outer []string, words *int) []api.Token {
	meant, stands := m.words[token.Text]
	if token.Kind != api.TokWord || !stands || slices.Contains(outer, token.Text) {
		return []api.Token{token}
	}
	*words++
	if token.Text == "__LINE__" {
		line := m.lines[m.next-1][0].Line + 1
		text := ""
		for n := line; n > 0; n /= 10 {
			text = string(rune('0'+n%10)) + text
		}
		return number(text, line)
	}
	var l []api.Token
	for _, x := range meant {
		if *words > 2048 || len(l) > 2048 {
			break
		}
		l = append(l, m.replace(x, append(slices.Clone(outer), token.Text), words)...)
	}
	return l
}

// agrees holds Run against the model.
func agrees(t *testing.T, text string) ([]api.Token, api.Spot) {
	t.Helper()
	got, spot := pre.Run(text)
	want, place := run(text)
	if spot != place || !slices.Equal(got, want) {
		t.Fatalf("Run(%q) = %q, %v; want %q, %v", text, brief(got), spot, brief(want), place)
	}
	return got, spot
}

// chance tells numbers that look like chance, and are always the same.
type chance uint64

func (c *chance) below(n int) int {
	*c = *c*6364136223846793005 + 1442695040888963407
	return int(uint64(*c)>>33) % n
}

// of answers one of these.
func (c *chance) of(l ...string) string { return l[c.below(len(l))] }

// word answers a word out of a few, so that they meet one another.
func (c *chance) word() string {
	if c.below(6) == 0 {
		return c.of("GL_ES", "__LINE__", "__VERSION__", "GL_X", "a__b", "x", "define", "else")
	}
	return c.of("A", "B", "C", "D")
}

// tokens answers up to most tokens.
func (c *chance) tokens(most int) string {
	s := ""
	for range c.below(most + 1) {
		if c.below(3) > 0 {
			s += c.word() + " "
		} else {
			s += c.of("1", "2.5", "+", "(", ")", "#", "100", ";", "if") + " "
		}
	}
	return s
}

// line answers a line: a wild one may be anything behind a #.
func (c *chance) line(wild bool) string {
	sharp := c.of("#", "#", " # ", "/**/#")
	if wild && c.below(4) == 0 {
		return sharp + c.of("", "version 100", "version 300", "define", "define 3", "undef", "undef A B", "ifdef", "ifndef 3", "ifdef A B", "else", "endif", "if 1", "# A", "3", "else x", "endif +") + c.of("", "", " // c", " x")
	}
	switch c.below(12) {
	case 0, 1, 2:
		return sharp + "define " + c.word() + " " + c.tokens(4)
	case 3:
		return sharp + "undef " + c.word()
	case 4, 5:
		return sharp + c.of("ifdef ", "ifndef ") + c.word()
	case 6:
		return sharp + "else " + c.tokens(1)
	case 7:
		return sharp + "endif " + c.tokens(1)
	}
	return c.tokens(5)
}

// text answers a chance text of up to most lines; often all of its parts are closed.
func (c *chance) text(most int, wild bool) string {
	var l []string
	if c.below(5) == 0 {
		l = append(l, "#version 100")
	}
	open := 0
	for range c.below(most + 1) {
		line := c.line(wild)
		name, _, _ := strings.Cut(strings.TrimLeft(line, " /*#"), " ")
		if sharp := strings.Contains(line, "#"); sharp && strings.HasPrefix(name, "if") {
			open++
		} else if sharp && (name == "endif" || name == "else") && open == 0 && c.below(20) > 0 {
			continue
		} else if sharp && name == "endif" {
			open--
		}
		l = append(l, line)
	}
	if c.below(10) > 0 {
		l = append(l, slices.Repeat([]string{"#endif"}, max(open, 0))...)
	}
	return strings.Join(append(l, c.tokens(2)), "\n")
}

// P11.2: chance texts of lines; many of them are taken, and many of those have tokens.
func TestChanceTexts(t *testing.T) {
	c := chance(11)
	taken, told, wrong := 0, 0, 0
	for i := range 40000 {
		l, spot := agrees(t, c.text(10, i%3 == 0))
		switch {
		case spot.Err != api.OK:
			wrong++
		case len(l) > 3:
			told++
		default:
			taken++
		}
	}
	if taken < 3000 || told < 5000 || wrong < 5000 {
		t.Errorf("only %d texts of few tokens, %d of more, %d that are wrong", taken, told, wrong)
	}
}

// P11.2: chance texts of bytes, and of pieces of directives, put together without a plan.
func TestChancePieces(t *testing.T) {
	c := chance(12)
	pieces := []string{"#", "\n", "\n", "\n", " ", "define", "undef", "ifdef", "ifndef", "else", "endif", "version", "100", "A", "B", "GL_ES", "__LINE__", "+", "//", "/*", "*/", "@"}
	for range 60000 {
		s := ""
		for range c.below(14) {
			s += pieces[c.below(len(pieces))] + c.of("", " ", " ")
		}
		agrees(t, s)
	}
	for range 20000 {
		b := make([]byte, c.below(12))
		for i := range b {
			b[i] = "#\n A_1+"[c.below(7)]
		}
		agrees(t, string(b))
	}
}

// P11.2: all texts of up to six lines out of those that begin, turn and end parts.
func TestAllParts(t *testing.T) {
	few := []string{"#ifdef GL_ES\na\n", "#ifndef GL_ES\nb\n", "#ifdef\n", "#else\nc\n", "#endif\nd\n", "#if\n"}
	texts := []string{""}
	for n := 0; n < len(texts); n++ {
		agrees(t, texts[n])
		if strings.Count(texts[n], "#") < 6 {
			for _, line := range few {
				texts = append(texts, texts[n]+line)
			}
		}
	}
}

// P11.2: chance texts whose words double, about MaxTokens tokens and MaxTokens words.
func TestChanceLimits(t *testing.T) {
	c := chance(13)
	long, taken := 0, 0
	for range 1200 {
		text := "#define a " + c.of("", "", "+", "a", "c") + "\n"
		for _, word := range []string{"b", "c", "d", "e", "f"} {
			text += "#define " + word
			for range c.below(6) + 3 {
				text += " " + string(word[0]-1-byte(c.below(2)*c.below(2)))
			}
			text += "\n"
		}
		text = strings.ReplaceAll(text, "`", "x")
		for range 1 + c.below(8) {
			text += c.of("a", "d", "e", "e", "f", "f", "x", "\n") + " "
		}
		if _, spot := agrees(t, text); spot.Err == api.ErrLong {
			long++
		} else {
			taken++
		}
	}
	if long < 200 || taken < 200 {
		t.Errorf("only %d texts that are too long, %d that are not", long, taken)
	}
}

// P11.3: a text without # and without the three words is told as lex tells it.
func TestPlainTexts(t *testing.T) {
	c := chance(14)
	for _, text := range []string{
		"", "a", "GL_X __LINE _VERSION__ GL_E GL_ESS __line__", "void main(){gl_FragColor=vec4(1.0);}\n// # a\n/* GL_ES # */ x", "@", "1a", "a /*", "32768", times(33, "a"), times(api.MaxTokens+1, ";"), times(api.MaxTokens, ";"),
	} {
		plain(t, text)
	}
	for range 20000 {
		s := ""
		for range c.below(20) {
			s += c.of("a", "A", "define", "ifdef", "else", "endif", "version", "1", "2.5", "+=", "(", "//", "/*", "*/", "@", "GL_X", "a__b", "__", "7") + c.of("", " ", " ", "\n")
		}
		plain(t, s)
	}
}

// plain looks that Run tells a text as lex tells it.
func plain(t *testing.T, text string) {
	t.Helper()
	got, spot := pre.Run(text)
	want, place := lex.Lex(text)
	if spot != place || !slices.Equal(got, want) {
		t.Fatalf("Run(%s) = %v, %v; want %v, %v", short(text), got, spot, want, place)
	}
}

// P11.3: chance lines in a part that does not count change nothing, as long as their parts are closed, but the places of what follows; those are the same for as many bytes and line feeds of blanks.
func TestChanceThatDoesNotCount(t *testing.T) {
	c := chance(15)
	tried := 0
	for range 20000 {
		within := c.text(6, true) + "\n"
		ahead, behind := "#define A 1 __LINE__\n#ifdef X\n", "#endif\nA B C D GL_ES"
		if !closed(within) {
			continue
		}
		tried++
		blank := regexp.MustCompile(`[^\n]`).ReplaceAllString(within, " ")
		got, spot := pre.Run(ahead + within + behind)
		want, place := pre.Run(ahead + blank + behind)
		if spot != place || spot.Err != api.OK || !slices.Equal(got, want) {
			t.Fatalf("Run(%q) = %v, %v; want %v, %v", ahead+within+behind, got, spot, want, place)
		}
	}
	if tried < 5000 {
		t.Errorf("only %d texts", tried)
	}
}

// closed tells whether a text is tokens, and all its parts are closed.
func closed(text string) bool {
	tokens, spot := lex.Lex(text)
	if spot != (api.Spot{}) {
		return false
	}
	var turned []bool
	for _, line := range pre.Lines(tokens) {
		parts := isParts.FindStringSubmatch(brief(line))
		last := len(turned) - 1
		switch {
		case parts == nil:
		case parts[1][0] == 'i':
			turned = append(turned, false)
		case last < 0 || parts[1] == "else" && turned[last]:
			return false
		case parts[1] == "else":
			turned[last] = true
		default:
			turned = turned[:last]
		}
	}
	return len(turned) == 0
}
