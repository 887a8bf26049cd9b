package parse_test

import (
	"slices"
	"strings"
	"testing"

	"paintbox/api"
	"paintbox/lex"
	"paintbox/parse"
)

// grammarText is the chapter's grammar, rule by rule, with what may be left out or stands any number of times written out. A place is what is a NodeName or a NodeField, in whatever parentheses.
const grammarText = `
shader = | shader decl | shader func
decl = TYPE vars ; | attribute TYPE vars ; | uniform TYPE vars ; | varying TYPE vars ; | const TYPE vars ;
vars = var | vars , var
var = NAME | NAME = expr
func = TYPE NAME ( ) block | TYPE NAME ( params ) block
params = param | params , param
param = TYPE NAME
block = { statements }
statements = | statements statement
statement = block | local | branch | loop | return ; | return expr ; | discard ; | expr ; | ;
local = TYPE vars ; | const TYPE vars ;
branch = if ( expr ) statement | if ( expr ) statement else statement
loop = for ( int a = bound ; a < bound ; a ++ ) statement | for ( int b = bound ; b < bound ; b ++ ) statement | for ( int c = bound ; c < bound ; c ++ ) statement
bound = INT | - INT
expr = cond | place = expr | place += expr | place -= expr | place *= expr | place /= expr
place = NAME | post . NAME | ( place )
cond = or | or ? expr : cond
or = and | or BARS and
and = same | and && same
same = less | same == less | same != less
less = sum | less < sum | less > sum | less <= sum | less >= sum
sum = product | sum + product | sum - product
product = unary | product * unary | product / unary
unary = post | - unary | ! unary
post = first | post . NAME
first = NAME | INT | FLOAT | true | false | call | ( expr )
call = NAME ( ) | NAME ( exprs ) | TYPE ( ) | TYPE ( exprs )
exprs = expr | exprs , expr
`

// production is one way of a rule.
type production struct {
	left  string
	right []string
}

// grammar answers all ways, by their rules.
func grammar() map[string][]production {
	rules := map[string][]production{}
	for _, line := range strings.Split(strings.TrimSpace(grammarText), "\n") {
		left, right, _ := strings.Cut(line, " =")
		for _, way := range strings.Split(right, " |") {
			rules[left] = append(rules[left], production{left, strings.Fields(strings.ReplaceAll(way, "BARS", "||"))})
		}
	}
	return rules
}

// item is how far a way has gone, and behind which token it began.
type item struct {
	rule      string
	way, done int
	from      int
}

// chart is which ways may be under way behind each token (Earley's): so a shader begins with the tokens as long as there are some.
type chart struct {
	rules map[string][]production
	sets  [][]item
}

func newChart() *chart {
	c := &chart{rules: grammar(), sets: [][]item{nil}}
	for i := range c.rules["shader"] {
		c.sets[0] = append(c.sets[0], item{rule: "shader", way: i})
	}
	c.close()
	return c
}

// wants answers what an item goes on with; nothing at its end.
func (c *chart) wants(x item) string {
	right := c.rules[x.rule][x.way].right
	if x.done == len(right) {
		return ""
	}
	return right[x.done]
}

// close adds to the last set what begins there and what ends there.
func (c *chart) close() {
	here := len(c.sets) - 1
	seen := map[item]bool{}
	for _, x := range c.sets[here] {
		seen[x] = true
	}
	add := func(x item) {
		if !seen[x] {
			seen[x] = true
			c.sets[here] = append(c.sets[here], x)
		}
	}
	for i := 0; i < len(c.sets[here]); i++ {
		x := c.sets[here][i]
		want := c.wants(x)
		if want == "" {
			for _, y := range slices.Clone(c.sets[x.from]) {
				if c.wants(y) == x.rule {
					y.done++
					add(y)
				}
			}
			continue
		}
		for way, p := range c.rules[want] {
			add(item{want, way, 0, here})
			if len(p.right) == 0 {
				y := x
				y.done++
				add(y)
			}
		}
	}
}

// fits tells whether a token is what a rule asks for.
func (c *chart) fits(token api.Token, want string) bool {
	switch want {
	case "NAME":
		return token.Kind == api.TokWord && !slices.Contains(reservedWords(), token.Text)
	case "TYPE":
		return slices.Contains(typeWords(), token.Text)
	case "INT":
		return token.Kind == api.TokInt
	case "FLOAT":
		return token.Kind == api.TokFloat
	}
	return len(c.rules[want]) == 0 && token.Text == want
}

// can tells whether a token may come next.
func (c *chart) can(token api.Token) bool {
	for _, x := range c.sets[len(c.sets)-1] {
		if c.fits(token, c.wants(x)) {
			return true
		}
	}
	return false
}

// take goes on by a token that may come next.
func (c *chart) take(token api.Token) {
	var next []item
	for _, x := range c.sets[len(c.sets)-1] {
		if c.fits(token, c.wants(x)) {
			x.done++
			next = append(next, x)
		}
	}
	c.sets = append(c.sets, next)
	c.close()
}

// whole tells whether the tokens by now are a shader.
func (c *chart) whole() bool {
	for _, x := range c.sets[len(c.sets)-1] {
		if x.rule == "shader" && x.from == 0 && c.wants(x) == "" {
			return true
		}
	}
	return false
}

// alphabet is the tokens that chance takes, each kind of them among.
func alphabet(t *testing.T) []api.Token {
	return tokens(t, "a b c int vec2 void attribute uniform varying const if else for return discard true false while struct in 1 0 .5 2.0 "+
		"( ) [ ] { } . , ; : ? + - * / < > = ! # == != <= >= && || ++ -- += -= *= /=")
}

// agrees holds Parse's answer against what is known of the tokens: whether the last one can stand there, and whether they are a shader.
func agrees(t *testing.T, l []api.Token, can, whole bool) {
	t.Helper()
	x, spot := parse.Parse(l)
	last := api.Token{}
	if len(l) > 0 {
		last = l[len(l)-1]
	}
	switch {
	case !can:
		if spot != (api.Spot{Err: api.ErrParse, At: last.At}) {
			t.Fatalf("Parse(%q): %v; the last one can't stand there, at %d", lex.Print(l), spot, last.At)
		}
	case !whole:
		if spot != (api.Spot{Err: api.ErrParse, At: last.At + len(last.Text)}) {
			t.Fatalf("Parse(%q): %v; it ends too early, at %d", lex.Print(l), spot, last.At+len(last.Text))
		}
	case spot.Err == api.OK:
		if parse.Check(x) != api.OK {
			t.Fatalf("Check of Parse(%q)", lex.Print(l))
		}
		back(t, x)
	case spot.Err != api.ErrLong:
		t.Fatalf("Parse(%q): %v; it is a shader", lex.Print(l), spot)
	}
	if spot.Err != api.OK && x.Nodes != nil {
		t.Fatal("a tree beside an error")
	}
}

// wrongAt asks whether tokens are wrong at this place, whatever stands behind it.
func wrongAt(t *testing.T, l []api.Token, at int) {
	t.Helper()
	if _, spot := parse.Parse(l); spot != (api.Spot{Err: api.ErrParse, At: at}) {
		t.Fatalf("Parse(%q): %v; want %d", lex.Print(l), spot, at)
	}
}

// chance tells numbers that look like chance, and are always the same.
type chance uint64

func (c *chance) below(n int) int {
	*c = *c*6364136223846793005 + 1442695040888963407
	return int(uint64(*c)>>33) % n
}

// of answers one of these.
func (c *chance) of(l ...string) string { return l[c.below(len(l))] }

// P12.1, P12.4: from token to token, by chance: of all tokens that may come next, and of all that may not, Parse tells just so; cut off anywhere too.
func TestNextToken(t *testing.T) {
	for seed := range 40 {
		c := chance(seed)
		m := newChart()
		var l []api.Token
		heads := []string{"", "", "void a(){", "void a(){", "int a=", "void a(){if(", "void a(){a=", "void a(){for(int b=1;b<2;b++)"}
		for _, token := range tokens(t, heads[seed%len(heads)]) {
			m.take(token)
			l = append(l, token)
		}
		for range 45 {
			agrees(t, l, true, m.whole())
			var may []api.Token
			for _, token := range alphabet(t) {
				token.At = 3*len(l) + c.below(3)
				if m.can(token) {
					may = append(may, token)
					continue
				}
				agrees(t, append(l[:len(l):len(l)], token), false, false)
				wrongAt(t, append(l[:len(l):len(l)], token, alphabet(t)[c.below(40)], token), token.At)
			}
			token := may[c.below(len(may))]
			if c.below(3) == 0 {
				token = may[0]
			}
			m.take(token)
			l = append(l, token)
		}
	}
}
