package gen_test

import (
	"fmt"
	"strings"
	"testing"

	"paintbox/api"
	"paintbox/sense"
)

// sized answers the word of a type of floats.
func sized(size int) string { return vectorOf("float", size) }

// spreadOut answers a value's numbers in n places: a plain one's number stands in all.
func spreadOut(v api.Vec, size, n int) api.Vec {
	var w api.Vec
	for i := range n {
		w[i] = v[i]
		if size == 1 {
			w[i] = v[0]
		}
	}
	return w
}

// of asks whether a call or an operator of uniforms of these types has the value that Apply tells of fn; the value is held by a uniform of its type, so that each number counts. tell is the expression, of a, b and c.
func of(t *testing.T, w *chance, tell, kind string, fn, base int, args ...string) {
	t.Helper()
	n := 0
	for _, arg := range args {
		n = max(n, sizeOf(arg))
	}
	text, names := "", []string{"a", "b", "c"}
	for i, arg := range args {
		text += "uniform " + arg + " " + names[i] + ";"
	}
	text += "uniform " + kind + " w;void main(){" + kind + " r=" + tell + ";gl_FragColor=vec4(r==w,r!=w," + tell + "==w,w==" + tell + ");}"
	c := shader(t, fragment, text)
	x := generated(t, c)
	for range 8 {
		var l, handed []api.Vec
		for _, arg := range args {
			v := w.vector()
			handed = append(handed, v)
			if baseOf(arg) == "bool" {
				for i := range v {
					v[i], _ = sense.Convert(api.BaseInt, api.BaseBool, v[i])
				}
			}
			l = append(l, spreadOut(v, sizeOf(arg), n))
		}
		want, err := sense.Apply(fn, base, n, l...)
		if err != api.OK {
			t.Fatalf("%s: %d", text, err)
		}
		wrong := want
		wrong[w.below(sizeOf(kind))] ^= 1
		for told, out := range map[api.Vec]api.Vec{want: numbers(1, 0, 1, 1), wrong: numbers(0, 1, 0, 0)} {
			e := api.Env{Uniforms: append(handed[:len(handed):len(handed)], told)}
			if got := means(t, c, x, e); got.Color != out {
				t.Fatalf("%s\n%v\n%v; want %v", text, e, got, out)
			}
		}
	}
}

// P17.1: each built-in function but texture2D, of each type that it takes, with and without a float beside it.
func TestEachFunction(t *testing.T) {
	w := chance(1)
	for n := 1; n <= 4; n++ {
		g := sized(n)
		for i, name := range strings.Fields("abs sign floor fract sqrt inversesqrt exp2 log2 sin cos normalize") {
			of(t, &w, name+"(a)", g, api.FnAbs+i, api.BaseFloat, g)
		}
		for i, name := range strings.Fields("min max mod pow") {
			of(t, &w, name+"(a,b)", g, api.FnMin+i, api.BaseFloat, g, g)
			if name != "pow" {
				of(t, &w, name+"(a,b)", g, api.FnMin+i, api.BaseFloat, g, "float")
			}
		}
		of(t, &w, "step(a,b)", g, api.FnStep, api.BaseFloat, g, g)
		of(t, &w, "step(a,b)", g, api.FnStep, api.BaseFloat, "float", g)
		of(t, &w, "mix(a,b,c)", g, api.FnMix, api.BaseFloat, g, g, g)
		of(t, &w, "mix(a,b,c)", g, api.FnMix, api.BaseFloat, g, g, "float")
		of(t, &w, "clamp(a,b,c)", g, api.FnClamp, api.BaseFloat, g, g, g)
		of(t, &w, "clamp(a,b,c)", g, api.FnClamp, api.BaseFloat, g, "float", "float")
		of(t, &w, "dot(a,b)", "float", api.FnDot, api.BaseFloat, g, g)
		of(t, &w, "length(a)", "float", api.FnLength, api.BaseFloat, g)
	}
	of(t, &w, "cross(a,b)", "vec3", api.FnCross, api.BaseFloat, "vec3", "vec3")
}

// P17.1: each operator, of each type that it takes, with a plain side and without.
func TestEachOperator(t *testing.T) {
	w := chance(2)
	for base, word := range map[int]string{api.BaseFloat: "float", api.BaseInt: "int", api.BaseBool: "bool"} {
		for n := 1; n <= 4; n++ {
			kind := vectorOf(word, n)
			of(t, &w, "(a==b)", "bool", api.FnSame, base, kind, kind)
			of(t, &w, "(a!=b)", "bool", api.FnOther, base, kind, kind)
			if base == api.BaseBool {
				continue
			}
			of(t, &w, "(-a)", kind, api.FnNeg, base, kind)
			for i, op := range strings.Fields("+ - * /") {
				of(t, &w, "(a"+op+"b)", kind, api.FnAdd+i, base, kind, kind)
				of(t, &w, "(a"+op+"b)", kind, api.FnAdd+i, base, word, kind)
				of(t, &w, "(a"+op+"b)", kind, api.FnAdd+i, base, kind, word)
			}
		}
		if base != api.BaseBool {
			for i, op := range strings.Fields("< > <= >=") {
				of(t, &w, "(a"+op+"b)", "bool", api.FnLess+i, base, word, word)
			}
		}
	}
	of(t, &w, "(!a)", "bool", api.FnNot, api.BaseBool, "bool")
}

// P17.1: && and two bars, of all four pairs, in the places where bools are asked.
func TestBars(t *testing.T) {
	const text = "uniform bool a,b;void main(){bool c=a&&b,d=a||b;if(a&&b)gl_FragColor.x=1.0;if(a||b)gl_FragColor.y=1.0;gl_FragColor.z=c==(a&&b)&&!(a&&b)!=c?1.0:2.0;gl_FragColor.w=float(d)+float(a||b)+float(!a||!b)*4.0;}"
	for _, r := range []struct {
		a, b api.Fix
		want api.Vec
	}{{0, 0, numbers(0, 0, 1, 4)}, {0, 5, numbers(0, 1, 1, 6)}, {-1, 0, numbers(0, 1, 1, 6)}, {9, 1, numbers(1, 1, 1, 2)}} {
		paints(t, text, api.Env{Uniforms: []api.Vec{{r.a, 1, 1, 1}, {r.b, 1, 1, 1}}}, r.want)
	}
}

// P17.1: each type's word, of one argument of every type with numbers enough: the first numbers, converted; a plain one's in all places.
func TestEachTypeWord(t *testing.T) {
	w := chance(3)
	bases := map[string]int{"float": api.BaseFloat, "int": api.BaseInt, "bool": api.BaseBool}
	for _, kind := range values() {
		for _, arg := range values() {
			if sizeOf(arg) < sizeOf(kind) && sizeOf(arg) > 1 {
				continue
			}
			c := shader(t, fragment, "uniform "+arg+" a;uniform "+kind+" w;void main(){"+kind+" r="+kind+"(a);gl_FragColor=vec4(r==w,"+kind+"(a)==w,r!=w,0);}")
			x := generated(t, c)
			for range 6 {
				v := w.vector()
				want := spreadOut(v, sizeOf(arg), sizeOf(kind))
				for i := range sizeOf(kind) {
					if baseOf(arg) == "bool" {
						want[i], _ = sense.Convert(api.BaseInt, api.BaseBool, want[i])
					}
					want[i], _ = sense.Convert(bases[baseOf(arg)], bases[baseOf(kind)], want[i])
				}
				if got := means(t, c, x, api.Env{Uniforms: []api.Vec{v, want}}); got.Color != numbers(1, 1, 0, 0) {
					t.Fatalf("%s(%s) of %v is not %v: %v", kind, arg, v, want, got)
				}
			}
		}
	}
}

// parted tells all ways to write n as a sum, the last part perhaps greater than what is left, each part at most 4; of one part alone there is none.
func parted(n int) [][]int {
	var l [][]int
	var split func(left int, parts []int)
	split = func(left int, parts []int) {
		for part := 1; part <= 4; part++ {
			more := append(parts[:len(parts):len(parts)], part)
			switch {
			case part < left:
				split(left-part, more)
			case len(more) > 1:
				l = append(l, more)
			}
		}
	}
	split(n, nil)
	return l
}

// P17.1: vectors out of several arguments, of all sizes, and of mixed Bases: numbers one behind the other, each converted; what is too many falls away.
func TestSeveralArguments(t *testing.T) {
	w := chance(4)
	bases := map[string]int{"float": api.BaseFloat, "int": api.BaseInt, "bool": api.BaseBool}
	for n := 2; n <= 4; n++ {
		for _, parts := range parted(n) {
			for base := range bases {
				text, kind := "", vectorOf(base, n)
				var l []string
				var args []string
				for i, part := range parts {
					args = append(args, vectorOf(w.of("float", "int", "bool"), part))
					text += fmt.Sprintf("uniform %s a%d;", args[i], i)
					l = append(l, fmt.Sprint("a", i))
				}
				c := shader(t, fragment, text+"uniform "+kind+" w;void main(){"+kind+" r="+kind+"("+strings.Join(l, ",")+");gl_FragColor=vec4(r==w,r!=w,0,0);}")
				x := generated(t, c)
				var handed []api.Vec
				var want api.Vec
				at := 0
				for _, arg := range args {
					v := w.vector()
					handed = append(handed, v)
					for i := 0; i < sizeOf(arg) && at < n; i++ {
						if baseOf(arg) == "bool" && v[i] != 0 {
							v[i] = 1
						}
						want[at], _ = sense.Convert(bases[baseOf(arg)], bases[base], v[i])
						at++
					}
				}
				if got := means(t, c, x, api.Env{Uniforms: append(handed, want)}); got.Color != numbers(1, 0, 0, 0) {
					t.Fatalf("%s of %v: %v", kind, args, got)
				}
			}
		}
	}
}

// P17.1: fields of every name that a type has, read and written.
func TestEachField(t *testing.T) {
	for size := 2; size <= 4; size++ {
		var names []string
		for _, row := range []string{"xyzw", "rgba", "stpq"} {
			names = append(names, namesOf(row[:size], 4)...)
		}
		for k, name := range names {
			if k%7 != size {
				continue // one out of seven says enough
			}
			v := marked()
			want, places := api.Vec{}, map[byte]int{}
			for i := range len(name) {
				places[name[i]]++
				want[i] = v[strings.IndexByte("xyzwrgbastpq", name[i])%4]
			}
			text := "uniform " + sized(size) + " u;uniform " + sized(len(name)) + " w;void main(){gl_FragColor.x=float(u." + name + "==w);"
			out := numbers(1)
			if len(places) == len(name) { // it may be written
				text += sized(size) + " r=u;r." + name + "=w*2.0;gl_FragColor.y=float(r." + name + "==w*2.0);r." + name + "/=2.0;gl_FragColor.z=float(r==u);"
				out = numbers(1, 1, 1)
			}
			paints(t, text+"}", api.Env{Uniforms: []api.Vec{v, want}}, out)
		}
	}
}

// namesOf answers all words of one to n of these letters.
func namesOf(letters string, n int) []string {
	var l []string
	for _, letter := range strings.Split(letters, "") {
		l = append(l, letter)
		if n > 1 {
			for _, rest := range namesOf(letters, n-1) {
				l = append(l, letter+rest)
			}
		}
	}
	return l
}
