package prog_test

import (
	"bytes"
	"fmt"
	"strings"
	"testing"

	"paintbox/api"
	"paintbox/check"
	"paintbox/code"
	"paintbox/gen"
	"paintbox/parse"
	"paintbox/pre"
	"paintbox/prog"
	"paintbox/sense"
)

// sameShader tells whether two shaders are the same.
func sameShader(a, b api.Shader) bool {
	return check.Same(a.Checked, b.Checked) && code.Same(a.Code, b.Code)
}

// chained is what the chapter says of compiling, layer by layer.
func chained(text string, stage int) (api.Shader, api.Spot) {
	if stage != vertex && stage != fragment {
		return api.Shader{}, api.Spot{Err: api.ErrArg}
	}
	l, spot := pre.Run(text)
	if spot.Err != api.OK {
		return api.Shader{}, spot
	}
	x, spot := parse.Parse(l)
	if spot.Err != api.OK {
		return api.Shader{}, spot
	}
	c, spot := check.Check(x, stage)
	if spot.Err != api.OK {
		return api.Shader{}, spot
	}
	y, err := gen.Gen(c)
	if err != api.OK {
		return api.Shader{}, api.Spot{Err: err}
	}
	return api.Shader{Checked: c, Code: y}, api.Spot{}
}

// P19.1: what is taken, in both stages: what check and gen tell of it.
func TestCompile(t *testing.T) {
	for _, r := range []struct {
		stage int
		text  string
	}{
		{vertex, "void main(){}"},
		{fragment, "void main(){}"},
		{vertex, "attribute vec4 p;varying vec2 q;void main(){gl_Position=p;q=p.xy;}"},
		{fragment, "varying vec2 q;uniform float u;void main(){gl_FragColor=vec4(q,u,1.0);}"},
		{vertex, "#version 100\n#define N 3\nuniform ivec2 u;void main(){gl_PointSize=float(N*u.x+__LINE__);}"},
		{fragment, "#ifdef GL_ES\nvoid main(){discard;}\n#else\nthis is not looked at\n#endif"},
		{fragment, "float f(float x){return x*x;}void main(){for(int i=0;i<4;i++){gl_FragColor.x+=f(float(i));}}"},
		{fragment, "uniform sampler2D s;void main(){gl_FragColor=texture2D(s,gl_PointCoord);}"},
	} {
		want, _ := chained(r.text, r.stage)
		s, spot := prog.Compile(r.text, r.stage)
		if spot != (api.Spot{}) || !sameShader(s, want) {
			t.Errorf("%s\n%v, %v; want %v", r.text, s, spot, want)
		}
		if s.Checked.Stage != r.stage || s.Code.Stage != r.stage || check.Same(s.Checked, api.Checked{}) || code.Check(s.Code) != api.OK {
			t.Errorf("%s\n%v", r.text, s)
		}
	}
}

// refuses asks whether a text is refused there, and nothing is told beside.
func refuses(t *testing.T, text string, stage int, err api.Errno, at int) {
	t.Helper()
	if s, spot := prog.Compile(text, stage); spot != (api.Spot{Err: err, At: at}) || !sameShader(s, api.Shader{}) {
		t.Errorf("Compile(%.60q, %d): %v, %v; want %d at %d", text, stage, s, spot, err, at)
	}
}

// P19.1: a stage that there is not, ahead of whatever is wrong with the text.
func TestNoStage(t *testing.T) {
	for _, stage := range []int{0, 3, -1, 4, 1 << 40, -1 << 63} {
		for _, text := range []string{"void main(){}", "", "@", "void @", "#if", "a #if 1", "void main(){", "void main(){a=1;}", "float x;", strings.Repeat(" ", api.MaxText+1)} {
			refuses(t, text, stage, api.ErrArg, 0)
		}
	}
}

// P19.1: what each of the layers refuses, in both stages, at its Spot.
func TestRefused(t *testing.T) {
	deep := "void main(){" + strings.Repeat("{", api.MaxDepth-2) // what stands in there lies one too deep
	for _, r := range []struct {
		text string
		err  api.Errno
		at   int
	}{
		// lex, by way of pre
		{"@", api.ErrLex, 0},
		{"void main(){@}", api.ErrLex, 12},
		{"void main(){}/*", api.ErrLex, 13},
		{"void main(){int a=32768;}", api.ErrNumber, 18},
		{strings.Repeat(" ", api.MaxText+1), api.ErrLong, 0},
		{"void main(){int " + strings.Repeat("a", 33) + ";}", api.ErrLong, 16},
		{strings.Repeat(";", api.MaxTokens+1), api.ErrLong, api.MaxTokens},
		// pre
		{"#if 1\nvoid main(){}", api.ErrPre, 0},
		{"void main(){}\n#endif", api.ErrPre, 14},
		{"#ifdef X\nvoid main(){}", api.ErrPre, 22},
		{" #version 300", api.ErrPre, 1},
		{"#define A A A\n" + strings.Repeat("A ", api.MaxTokens/2+1), api.ErrLong, 14 + api.MaxTokens},
		// parse
		{"void main(){", api.ErrParse, 12},
		{"void main(){a+b=c;}", api.ErrParse, 15},
		{"int", api.ErrParse, 3},
		{"int if;", api.ErrParse, 4},
		{"#define X if\nint X;", api.ErrParse, 17},
		{deep + ";" + strings.Repeat("}", api.MaxDepth-1), api.ErrLong, len(deep)},
		// check
		{"", api.ErrMain, 0},
		{"float x;", api.ErrMain, 0},
		{"void main(){int i=1.0;}", api.ErrType, 16},
		{"#define X int i=1.0\nvoid main(){X;}", api.ErrType, 32},
		{"float f(){return f();}void main(){}", api.ErrName, 17},
		{"void main(){for(int i=0;i<65;i++){}}", api.ErrLoop, 12},
		{"const float a;void main(){}", api.ErrValue, 12},
		{"uniform vec2 u;void main(){u=u;}", api.ErrPlace, 28},
		{"uniform vec2 u;void main(){u.z;}", api.ErrField, 29},
		{"void main(){}float main(){return 1.0;}", api.ErrMain, 13},
		// gen
		{"void main(){for(int i=0;i<64;i++)for(int k=0;k<64;k++);}", api.ErrLong, 0},
		{"  void main(){for(int i=0;i<64;i++){float a=1.0;a+=2.0;}}", api.ErrLong, 0},
	} {
		for stage := vertex; stage <= fragment; stage++ {
			refuses(t, r.text, stage, r.err, r.at)
		}
	}
}

// P19.1: what one stage alone refuses, and what each refuses at another place.
func TestRefusedByStage(t *testing.T) {
	for _, r := range []struct {
		stage int
		text  string
		err   api.Errno
		at    int
	}{
		{vertex, "void main(){discard;}", api.ErrPlace, 12},
		{vertex, "void main(){gl_FragColor=vec4(1.0);}", api.ErrName, 12},
		{fragment, "void main(){gl_Position=vec4(1.0);}", api.ErrName, 12},
		{fragment, "attribute vec4 p;void main(){}", api.ErrPlace, 15},
		{fragment, "varying vec4 p;void main(){p=p;}", api.ErrPlace, 28},
	} {
		refuses(t, r.text, r.stage, r.err, r.at)
		compiled(t, vertex+fragment-r.stage, r.text)
	}
	refuses(t, "attribute vec4 p;void main(){p=p;}", vertex, api.ErrPlace, 30)
	refuses(t, "attribute vec4 p;void main(){p=p;}", fragment, api.ErrPlace, 15)
}

// P19.1: of several layers that refuse a text the first one is told, wherever in the text it is.
func TestFirstRefusal(t *testing.T) {
	const costly = "void main(){for(int i=0;i<64;i++)for(int k=0;k<64;k++);"
	refuses(t, "int if;\n#endif\n@", vertex, api.ErrLex, 15)                 // ahead of pre and parse
	refuses(t, "int if;\n#endif", vertex, api.ErrPre, 8)                     // ahead of parse
	refuses(t, "void main(){int i=1.0;}\n#endif", vertex, api.ErrPre, 24)    // ahead of check
	refuses(t, "void main(){int i=1.0;", vertex, api.ErrParse, 22)           // ahead of check
	refuses(t, "void main(){discard;}int", vertex, api.ErrParse, 24)         // ahead of check
	refuses(t, costly+"int if;}", fragment, api.ErrParse, len(costly)+4)     // ahead of gen
	refuses(t, costly+"int i=1.0;}", fragment, api.ErrType, len(costly)+4)   // ahead of gen
	refuses(t, costly+"discard;}", vertex, api.ErrPlace, len(costly))        // ahead of gen
	refuses(t, costly+"discard;}", fragment, api.ErrLong, 0)                 // gen alone
	refuses(t, "float x;"+costly[:len(costly)-1], vertex, api.ErrParse, 62)  // the text ends too early
	refuses(t, "void f()"+costly[11:]+"}void g(){}", vertex, api.ErrMain, 0) // no main
}

// P19.1: a shader of the greatest cost that has a code, and one that costs 1 more.
func TestGreatestCost(t *testing.T) {
	text := func(n int) string { return "void main(){" + strings.Repeat(";", n) + "}" }
	for stage := vertex; stage <= fragment; stage++ {
		s := compiled(t, stage, text(api.MaxCost-2))
		if cost := sense.Cost(s.Checked); cost != api.MaxCost {
			t.Fatal(cost)
		}
		refuses(t, text(api.MaxCost-1), stage, api.ErrLong, 0)
		refuses(t, text(1900), stage, api.ErrLong, 0)
	}
}

// P19.1: texts that were taken, with a few bytes changed by chance: told as the layers tell them.
func TestChanceTexts(t *testing.T) {
	told := map[api.Errno]int{}
	for seed := range 4000 {
		w := chance(seed)
		stage := 1 + seed%2
		d := newDraft(&w)
		write := d.vertexText
		if stage == fragment {
			write = d.fragmentText
		}
		text := []byte(write())
		if w.yes(4) {
			text = append([]byte("#ifdef GL_ES\n#define N 3\n#else\n#endif\n"), text...)
		}
		for range w.below(3) {
			at := w.below(len(text))
			switch w.below(6) {
			case 4, 5:
				words := strings.Fields("vec2 vec3 float int uniform varying attribute uniform gl_FragColor gl_FragCoord x y")
				k := w.below(len(words)/2) * 2
				text = bytes.Replace(text, []byte(words[k]), []byte(words[k+1]), 1+w.below(4))
			case 0:
				text = text[:at]
			case 1:
				text = append(text[:at:at], text[at+1:]...)
			case 2:
				text[at] = w.of("(", ")", "{", "}", ";", ".", "*", "#", "1", "a", "u", "x", "@", "/", "\n", "=")[0]
			case 3:
				text[at] = text[w.below(len(text))]
			}
			if len(text) == 0 {
				break
			}
		}
		want, refused := chained(string(text), stage)
		s, spot := prog.Compile(string(text), stage)
		told[spot.Err]++
		if spot != refused || !sameShader(s, want) {
			t.Fatalf("%q\n%v, %v; want %v, %v", text, s, spot, want, refused)
		}
	}
	for err, least := range map[api.Errno]int{api.OK: 1000, api.ErrParse: 1000, api.ErrLex: 50, api.ErrPre: 40, api.ErrName: 200, api.ErrType: 100, api.ErrPlace: 50, api.ErrMain: 10} {
		if told[err] < least {
			t.Errorf("%d: %v", err, told)
		}
	}
}

// P19.4: what compiles compiles again to the same, whatever was compiled in between.
func TestCompileAgain(t *testing.T) {
	for seed := range 300 {
		w := chance(seed)
		d := newDraft(&w)
		for stage, text := range map[int]string{vertex: d.vertexText(), fragment: d.fragmentText()} {
			s, spot := prog.Compile(text, stage)
			prog.Compile("uniform vec2 z;void main(){float y=z.x;}", fragment)
			again, wrong := prog.Compile(strings.Clone(text), stage)
			if spot != wrong || !sameShader(s, again) || fmt.Sprint(s) != fmt.Sprint(again) {
				t.Fatalf("%s\n%v\n%v", text, s, again)
			}
		}
	}
}

// P19.4: the text of a shader's tree compiles to the same shader but for its places.
func TestCompilePrinted(t *testing.T) {
	for seed := range 300 {
		w := chance(seed)
		d := newDraft(&w)
		for stage, text := range map[int]string{vertex: d.vertexText(), fragment: d.fragmentText()} {
			s := compiled(t, stage, text)
			printed, err := parse.Print(s.Checked.Tree)
			if err != api.OK {
				t.Fatal(err)
			}
			again := compiled(t, stage, printed)
			if !parse.Same(s.Checked.Tree, again.Checked.Tree) || !code.Same(s.Code, again.Code) {
				t.Fatalf("%s\n%s", text, printed)
			}
		}
	}
}
