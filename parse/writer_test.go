package parse_test

import (
	"slices"
	"testing"

	"paintbox/api"
	"paintbox/lex"
	"paintbox/parse"
)

// writer writes a chance shader: its tokens, and as a twig what they mean.
type writer struct {
	chance
	tokens []api.Token
	at     int
}

// put writes tokens, with any number of blanks ahead, and answers where the last one stands.
func (w *writer) put(texts ...string) int {
	for _, text := range texts {
		l, _ := lex.Lex(text)
		w.at += w.below(3)
		l[0].At = w.at
		w.tokens = append(w.tokens, l[0])
		w.at += len(text)
	}
	return w.tokens[len(w.tokens)-1].At
}

// next answers the number of the next token.
func (w *writer) next() int { return len(w.tokens) }

// set answers a twig of a kind that stands at a place.
func set(kind, at int, word, text string, kids ...twig) twig {
	return twig{api.Node{Kind: kind, Type: word, Text: text, At: at}, kids}
}

func (w *writer) name() string { return w.of("a", "b", "c", "main", "x", "gl_FragColor") }
func (w *writer) word() string { return w.of(typeWords()...) }

// yes tells true once out of n times.
func (w *writer) yes(n int) bool { return w.below(n) == 0 }

func (w *writer) shader() twig {
	x := set(api.NodeShader, 0, "", "")
	for range w.below(4) {
		if w.yes(2) {
			x.kids = append(x.kids, w.decl("", "attribute", "uniform", "varying", "const"))
		} else {
			x.kids = append(x.kids, w.function())
		}
	}
	return x
}

func (w *writer) decl(words ...string) twig {
	ahead, word := w.of(words...), w.word()
	first := w.next()
	if ahead != "" {
		w.put(ahead)
	}
	w.put(word)
	x := set(api.NodeDecl, w.tokens[first].At, word, ahead)
	for i := range 1 + w.below(3) {
		if i > 0 {
			w.put(",")
		}
		name := w.name()
		v := set(api.NodeVar, w.put(name), "", name)
		if w.yes(2) {
			w.put("=")
			v.kids = append(v.kids, w.expr(3))
		}
		x.kids = append(x.kids, v)
	}
	w.put(";")
	return x
}

func (w *writer) function() twig {
	word, name := w.word(), w.name()
	x := set(api.NodeFunc, w.put(word), word, name)
	w.put(name, "(")
	for i := range w.below(3) {
		if i > 0 {
			w.put(",")
		}
		word, name := w.word(), w.name()
		w.put(word)
		x.kids = append(x.kids, set(api.NodeParam, w.put(name), word, name))
	}
	w.put(")")
	if w.yes(4) {
		at := w.put("{")
		x.kids = append(x.kids, set(api.NodeBlock, at, "", "", w.nest(10+w.below(22))))
		w.put("}")
		return x
	}
	x.kids = append(x.kids, w.block(4))
	return x
}

// nest writes statements within one another.
func (w *writer) nest(n int) twig {
	switch kind := w.below(5); {
	case n == 0:
		return w.statement(2, false)
	case kind == 0:
		first := w.next()
		kid := w.nestExpr(n - 1)
		w.put(";")
		return set(api.NodeExpr, w.tokens[first].At, "", "", kid)
	case kind < 3:
		x := set(api.NodeIf, w.put("if"), "", "")
		w.put("(")
		x.kids = append(x.kids, w.expr(1))
		w.put(")")
		x.kids = append(x.kids, w.nest(n-1))
		return x
	}
	x := set(api.NodeBlock, w.put("{"), "", "")
	x.kids = append(x.kids, w.nest(n-1))
	w.put("}")
	return x
}

// nestExpr writes expressions within one another.
func (w *writer) nestExpr(n int) twig {
	switch kind := w.below(3); {
	case n == 0:
		return w.expr(2)
	case kind == 0:
		x := set(api.NodeUnary, w.put("!"), "", "!")
		w.put("(")
		x.kids = append(x.kids, w.nestExpr(n-1))
		w.put(")")
		return x
	case kind == 1:
		w.put("(")
		x := w.nestExpr(n - 1)
		w.put(")", "*")
		return set(api.NodeBinary, w.tokens[w.next()-1].At, "", "*", x, w.unary(1))
	}
	name := w.name()
	x := set(api.NodeCall, w.put(name), "", name)
	w.put("(")
	x.kids = append(x.kids, w.expr(1))
	w.put(",")
	x.kids = append(x.kids, w.nestExpr(n-1))
	w.put(")")
	return x
}

func (w *writer) block(depth int) twig {
	x := set(api.NodeBlock, w.put("{"), "", "")
	for range w.below(4) {
		x.kids = append(x.kids, w.statement(depth-1, false))
	}
	w.put("}")
	return x
}

// statement writes a statement; one that is shut does not end with an if that could take an else.
func (w *writer) statement(depth int, shut bool) twig {
	kind := w.below(9)
	if depth < 1 {
		kind = 3 + w.below(6)
	}
	switch kind {
	case 0:
		return w.block(depth)
	case 1:
		return w.branch(depth, shut)
	case 2:
		return w.loop(depth, shut)
	case 3:
		return w.decl("", "const")
	case 4:
		x := set(api.NodeReturn, w.put("return"), "", "")
		if w.yes(2) {
			x.kids = append(x.kids, w.expr(3))
		}
		w.put(";")
		return x
	case 5:
		x := set(api.NodeDiscard, w.put("discard"), "", "")
		w.put(";")
		return x
	case 6:
		return set(api.NodeEmpty, w.put(";"), "", "")
	}
	first := w.next()
	kid := w.expr(4)
	w.put(";")
	return set(api.NodeExpr, w.tokens[first].At, "", "", kid)
}

func (w *writer) branch(depth int, shut bool) twig {
	x := set(api.NodeIf, w.put("if"), "", "")
	w.put("(")
	x.kids = append(x.kids, w.expr(2))
	w.put(")")
	two := shut || w.yes(2)
	x.kids = append(x.kids, w.statement(depth-1, two))
	if two {
		w.put("else")
		x.kids = append(x.kids, w.statement(depth-1, shut))
	}
	return x
}

func (w *writer) loop(depth int, shut bool) twig {
	name := w.of("a", "b", "c")
	x := set(api.NodeFor, w.put("for"), "", name)
	w.put("(", "int", name, "=")
	x.kids = append(x.kids, w.bound())
	w.put(";", name, "<")
	x.kids = append(x.kids, w.bound())
	w.put(";", name, "++", ")")
	x.kids = append(x.kids, w.statement(depth-1, shut))
	return x
}

func (w *writer) bound() twig {
	first := w.next()
	below := w.yes(2)
	if below {
		w.put("-")
	}
	w.put(w.of("0", "1", "17", "32767"))
	num := w.tokens[w.next()-1].Num
	if below {
		num = -num
	}
	x := set(api.NodeInt, w.tokens[first].At, "", "")
	x.Num = num
	return x
}

func (w *writer) expr(depth int) twig {
	if depth < 1 || !w.yes(4) {
		return w.cond(depth)
	}
	place := w.place(depth)
	op := w.of("=", "+=", "-=", "*=", "/=")
	at := w.put(op)
	return set(api.NodeAssign, at, "", op, place, w.expr(depth-1))
}

func (w *writer) place(depth int) twig {
	if w.yes(4) {
		w.put("(")
		x := w.place(depth)
		w.put(")")
		return x
	}
	if w.yes(2) {
		name := w.name()
		return set(api.NodeName, w.put(name), "", name)
	}
	x := w.first(depth)
	for first := true; first || w.yes(3); first = false {
		w.put(".")
		name := w.of("x", "xyz", "rgba")
		x = set(api.NodeField, w.put(name), "", name, x)
	}
	return x
}

func (w *writer) cond(depth int) twig {
	x := w.row(0, depth)
	if depth < 1 || !w.yes(6) {
		return x
	}
	x = set(api.NodeCond, w.put("?"), "", "", x)
	x.kids = append(x.kids, w.expr(depth-1))
	w.put(":")
	x.kids = append(x.kids, w.cond(depth-1))
	return x
}

func (w *writer) row(level, depth int) twig {
	if level == len(levels()) {
		return w.unary(depth)
	}
	x := w.row(level+1, depth)
	for depth > 0 && w.yes(7) {
		op := w.of(levels()[level]...)
		at := w.put(op)
		x = set(api.NodeBinary, at, "", op, x, w.row(level+1, depth-1))
	}
	return x
}

func (w *writer) unary(depth int) twig {
	if w.yes(5) {
		op := w.of("-", "!")
		at := w.put(op)
		return set(api.NodeUnary, at, "", op, w.unary(depth))
	}
	x := w.first(depth)
	for w.yes(5) {
		w.put(".")
		name := w.of("x", "xyz", "rgba")
		x = set(api.NodeField, w.put(name), "", name, x)
	}
	return x
}

func (w *writer) first(depth int) twig {
	kind := w.below(7)
	if depth < 1 {
		kind = w.below(4)
	}
	switch kind {
	case 0:
		x := set(api.NodeInt, w.put(w.of("0", "1", "32767")), "", "")
		x.Num = w.tokens[w.next()-1].Num
		return x
	case 1:
		x := set(api.NodeFloat, w.put(w.of("0.", ".5", "1.25", "99999.")), "", "")
		x.Num = w.tokens[w.next()-1].Num
		return x
	case 2:
		text := w.of("true", "false")
		return set(api.NodeBool, w.put(text), "", text)
	case 3:
		name := w.name()
		return set(api.NodeName, w.put(name), "", name)
	case 4:
		w.put("(")
		x := w.expr(depth - 1)
		w.put(")")
		return x
	}
	text := w.of(w.name(), w.word())
	x := set(api.NodeCall, w.put(text), "", text)
	w.put("(")
	for i := range w.below(4) {
		if i > 0 {
			w.put(",")
		}
		x.kids = append(x.kids, w.expr(depth-1))
	}
	w.put(")")
	return x
}

// tooDeep answers the place of the first node of a tree's order that lies deeper than it may.
func (x twig) tooDeep(depth int) (int, bool) {
	if depth > api.MaxDepth {
		return x.At, true
	}
	for _, kid := range x.kids {
		if at, found := kid.tooDeep(depth + 1); found {
			return at, true
		}
	}
	return 0, false
}

// deepest answers how deep the deepest node lies.
func (x twig) deepest() int {
	deep := 0
	for _, kid := range x.kids {
		deep = max(deep, 1+kid.deepest())
	}
	return deep
}

// identical tells whether two trees are the same, At among.
func identical(a, b api.Tree) bool {
	return slices.EqualFunc(a.Nodes, b.Nodes, func(x, y api.Node) bool {
		return x.Kind == y.Kind && x.Type == y.Type && x.Text == y.Text && x.Num == y.Num && x.At == y.At && slices.Equal(x.Kids, y.Kids)
	})
}

// write answers a writer that has written a shader of not too many tokens.
func write(seed int) (*writer, twig) {
	for n := 0; ; n++ {
		w := &writer{chance: chance(1000*seed + n)}
		if x := w.shader(); len(w.tokens) <= api.MaxTokens {
			return w, x
		}
	}
}

// P12.1, P12.2, P12.4: the tree of chance shaders, with all their places; printed and parsed it is the Same.
func TestChanceShaders(t *testing.T) {
	deep := 0
	for seed := range 3000 {
		w, want := write(seed)
		got, spot := parse.Parse(w.tokens)
		if at, found := want.tooDeep(0); found {
			deep++
			if spot != (api.Spot{Err: api.ErrLong, At: at}) || got.Nodes != nil {
				t.Fatalf("Parse(%q): %v; want ErrLong at %d", lex.Print(w.tokens), spot, at)
			}
			continue
		}
		if spot != (api.Spot{}) || !identical(got, want.lay()) {
			t.Fatalf("Parse(%q): %v\n is %v\nnot %v", lex.Print(w.tokens), spot, got, want.lay())
		}
		if parse.Check(got) != api.OK || parse.Depth(got) != want.deepest() {
			t.Fatalf("Check of Parse(%q) is %d, Depth %d", lex.Print(w.tokens), parse.Check(got), parse.Depth(got))
		}
		if text, _ := parse.Print(got); len(text) <= api.MaxText {
			if _, spot := lex.Lex(text); spot == (api.Spot{}) {
				back(t, got)
			}
		}
	}
	if deep < 100 || deep > 1000 {
		t.Error(deep, "of 3000 are too deep")
	}
}

// P12.1, P12.4: chance shaders that are cut off, or have a token taken out, put in, or changed: what is wrong is the first token with which no shader goes on.
func TestSpoiltShaders(t *testing.T) {
	for seed := range 400 {
		w, _ := write(seed)
		if len(w.tokens) > 150 || len(w.tokens) < 2 {
			continue
		}
		c := chance(seed)
		for range 3 {
			l := slices.Clone(w.tokens)
			i := c.below(len(l))
			other := alphabet(t)[c.below(40)]
			other.At = l[i].At
			switch c.below(5) {
			case 0:
				l = l[:i]
			case 1:
				l = slices.Delete(l, i, i+1)
			case 2:
				l = slices.Insert(l, i, other)
			case 3:
				l[i] = other
			case 4:
				j := c.below(len(l))
				l[i], l[j] = l[j], l[i]
			}
			held(t, l)
		}
	}
}

// held holds Parse against the chart, token by token.
func held(t *testing.T, l []api.Token) {
	t.Helper()
	m := newChart()
	for i, token := range l {
		if !m.can(token) {
			agrees(t, l[:i+1], false, false)
			wrongAt(t, l, token.At)
			return
		}
		m.take(token)
	}
	agrees(t, l, true, m.whole())
}
