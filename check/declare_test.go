package check_test

import (
	"fmt"
	"strings"
	"testing"

	"paintbox/api"
)

// values are the types' words but void and sampler2D.
func values() []string {
	return strings.Fields("float vec2 vec3 vec4 int ivec2 ivec3 ivec4 bool bvec2 bvec3 bvec4")
}

// words are all types' words.
func words() []string { return append(values(), "void", "sampler2D") }

// isFloat tells whether a type's word is one of BaseFloat.
func isFloat(word string) bool { return word == "float" || strings.HasPrefix(word, "vec") }

// declared is what is wanted of a NodeVar of such a type in a stage, if it has a value, or none: the chapter's row in its order.
func declared(word, kind string, stage int, valued bool) api.Errno {
	handed := strings.Contains(" attribute uniform varying ", " "+word+" ")
	if kind == "void" || kind == "sampler2D" && word != "uniform" {
		return api.ErrType
	}
	if word == "attribute" && stage == fragment {
		return api.ErrPlace
	}
	if (word == "attribute" || word == "varying") && !isFloat(kind) {
		return api.ErrType
	}
	if handed && valued || word == "const" && !valued {
		return api.ErrValue
	}
	return api.OK
}

// P14.1: NodeVar: each word with each type, in both stages, with and without a value; of the whole shader and of a block.
func TestDeclared(t *testing.T) {
	for _, stage := range both() {
		for _, kind := range words() {
			for _, word := range strings.Split(" attribute uniform varying const", " ") {
				for _, valued := range []bool{false, true} {
					text := fmt.Sprintf("%s %s ~a", word, kind)
					if valued {
						text += fmt.Sprintf("=%s(1)", kind)
					}
					rows := []string{text + ";void main(){}"}
					if word == "" || word == "const" {
						rows = append(rows, "void main(){"+text+";}", "void main(){if(true)"+text+";}", "void f(int b){{"+text+";}}void main(){}")
					}
					for _, row := range rows {
						if err := declared(word, kind, stage, valued); err != api.OK {
							refused(t, stage, err, row)
						} else {
							passes(t, stage, strings.Replace(row, "~", "", 1))
						}
					}
				}
			}
		}
	}
}

// P14.1: what is wrong with a NodeVar's type, word and lack of a value goes ahead of its value and of its name.
func TestDeclaredFirst(t *testing.T) {
	for _, name := range []string{"abs", "gl_a", "a"} {
		refusedBoth(t, api.ErrType, "float a;void ~"+name+"=b;")
		refusedBoth(t, api.ErrType, "float a;sampler2D ~"+name+"=b;")
		refusedBoth(t, api.ErrType, "float a;const sampler2D ~"+name+"=b;")
		refusedBoth(t, api.ErrType, "float a;const void ~"+name+";")
		refused(t, fragment, api.ErrPlace, "float a;attribute float ~"+name+"=b;")
		refused(t, fragment, api.ErrPlace, "float a;attribute int ~"+name+"=b;")
		refused(t, vertex, api.ErrType, "float a;attribute int ~"+name+"=b;")
		refused(t, vertex, api.ErrValue, "float a;attribute vec2 ~"+name+"=b;")
		refusedBoth(t, api.ErrType, "float a;varying bool ~"+name+"=b;")
		refusedBoth(t, api.ErrValue, "float a;varying vec3 ~"+name+"=b;")
		refusedBoth(t, api.ErrValue, "float a;uniform bool ~"+name+"=b;")
		refusedBoth(t, api.ErrValue, "float a;uniform sampler2D ~"+name+"=b;")
		refusedBoth(t, api.ErrValue, "float a;const int ~"+name+";")
		refusedBoth(t, api.ErrName, "float a;const int "+name+"=~b;")
		refusedBoth(t, api.ErrType, "float a;const int ~"+name+"=1.0;")
		refusedBoth(t, api.ErrValue, "float a;const float ~"+name+"=a;")
		refusedBoth(t, api.ErrValue, "float a;float ~"+name+"=a;")
		refusedBoth(t, api.ErrName, "float a;float ~"+name+"=1.0;")
		refusedBoth(t, api.ErrName, "float a;float ~"+name+";")
	}
}

// P14.1: NodeVar: a value has just its type.
func TestValueType(t *testing.T) {
	for _, kind := range values() {
		for _, other := range values() {
			for _, row := range []string{"%s ~a=%s(1);void main(){}", "const %s ~a=%s(true);void main(){}", "void main(){%s ~a=%s(1.0);}", "void main(){const %s ~a=%s(0);}"} {
				if text := fmt.Sprintf(row, kind, other); kind != other {
					refusedBoth(t, api.ErrType, text)
				} else {
					passesBoth(t, strings.Replace(text, "~", "", 1))
				}
			}
		}
		refusedBoth(t, api.ErrType, within(kind+" ~a=v();"))
		refusedBoth(t, api.ErrType, within(kind+" ~a=s;"))
		refusedBoth(t, api.ErrType, within("const "+kind+" ~a=v();"))
		refusedBoth(t, api.ErrType, "void v(){}"+kind+" ~a=v();")
		refusedBoth(t, api.ErrType, "uniform sampler2D s;"+kind+" ~a=s;")
	}
}

// given is what values may name: of the whole shader, ahead of a NodeVar in a function.
const given = "const float k=1.0;const vec2 l=vec2(k);float m=1.0;uniform float u;uniform sampler2D s;varying vec2 y;float g(float a){return a;}"

// constants and others are expressions of type float: those that are constant, and those that are not.
func constants() []string {
	return []string{
		"1.0", "(1.0)", "-1.0", "k", "-k", "k+k", "k*1.0-2.0/k", "l.x", "l.yx.y", "vec2(1.0).x", "float(1)", "float(true)", "float(l)", "float(vec4(1.0))", "true?1.0:k", "k<1.0?k:k", "1<2&&!(k==k)||false?k:l.y",
		"abs(-k)", "sin(1.0)", "min(k,1.0)", "mix(k,1.0,k)", "dot(l,l)", "length(vec3(k,l))", "pow(2.0,k)", "clamp(k,0.0,1.0)", "cross(vec3(1),vec3(2)).x", "step(k,k)", "float(int(k))", "floor(fract(sqrt(k)))",
	}
}

func others() []string {
	return []string{
		"m", "-m", "u", "k+m", "m+k", "y.x", "g(k)", "g(1.0)", "-g(1.0)", "abs(m)", "abs(-u)", "min(k,m)", "min(m,k)", "float(m)", "vec2(k,m).x", "true?m:k", "true?k:m", "m<k?k:k", "k<m?k:k", "mix(k,k,u)",
		"texture2D(s,l).x", "texture2D(s,vec2(1.0)).x", "abs(texture2D(s,l).x)", "(m=1.0)", "k+(m=1.0)", "abs(g(k))", "dot(l,y)", "true&&m<1.0?k:k", "!(m<1.0)?k:k",
	}
}

// P14.1: NodeVar: of a const, and of each of the whole shader's scope, the value is a constant expression; of others it need not be.
func TestConstantValues(t *testing.T) {
	head := given
	for _, stage := range both() {
		for _, value := range constants() {
			passes(t, stage, head+"float a="+value+";void main(){}")
			passes(t, stage, head+"const float a="+value+",b=a;void main(){}")
			passes(t, stage, head+"void main(){const float a="+value+";const float b=a;}")
			passes(t, stage, head+"void main(){float a="+value+";}")
			passes(t, stage, head+"void main(){if(true)const float a="+value+";}")
		}
		for _, value := range others() {
			refused(t, stage, api.ErrValue, head+"float ~a="+value+";void main(){}")
			refused(t, stage, api.ErrValue, head+"const float ~a="+value+";void main(){}")
			refused(t, stage, api.ErrValue, head+"void main(){const float ~a="+value+";}")
			refused(t, stage, api.ErrValue, head+"void main(){if(true)const float ~a="+value+";}")
			passes(t, stage, head+"void main(){float a="+value+";}")
		}
	}
}

// P14.1: values that name locals, parameters, a for's name and built-in variables are not constant; local consts are.
func TestConstantNames(t *testing.T) {
	for _, stage := range both() {
		refused(t, stage, api.ErrValue, "void main(){float a;const float ~b=a;}")
		refused(t, stage, api.ErrValue, "void f(float a){const float ~b=a;}void main(){}")
		refused(t, stage, api.ErrValue, "void main(){for(int i=0;i<1;i++){const int ~b=i;}}")
		passes(t, stage, "void main(){const float a=1.0;{const float b=a*2.0;}}")
		refused(t, stage, api.ErrValue, "const float a=1.0;void f(float a){const float ~b=a;}void main(){}")
		refused(t, stage, api.ErrValue, "const float a=1.0;void main(){float a=a;const float ~b=a;}")
		passes(t, stage, "float a=1.0;void main(){const float a=1.0;const float b=a;}")
	}
	refused(t, vertex, api.ErrValue, "attribute float p;const float ~b=p;")
	refused(t, vertex, api.ErrValue, "float ~a=gl_PointSize;")
	refused(t, vertex, api.ErrValue, "vec4 ~a=gl_Position;")
	refused(t, vertex, api.ErrValue, "void main(){const vec4 ~a=gl_Position;}")
	refused(t, fragment, api.ErrValue, "vec4 ~a=gl_FragCoord;")
	refused(t, fragment, api.ErrValue, "bool ~a=gl_FrontFacing;")
	refused(t, fragment, api.ErrValue, "vec2 ~a=gl_PointCoord;")
	refused(t, fragment, api.ErrValue, "void main(){const vec4 ~a=gl_FragColor;}")
}

// P14.1: a NodeVar whose value names itself: its name means what it meant ahead.
func TestValueNamesItself(t *testing.T) {
	for _, stage := range both() {
		refused(t, stage, api.ErrName, "float a=~a;")
		refused(t, stage, api.ErrName, "const float a=~a;")
		refused(t, stage, api.ErrName, "void main(){float a=~a;}")
		refused(t, stage, api.ErrName, "void main(){float a=1.0+~a;}")
		passes(t, stage, "float a;void main(){float a=a;}")
		passes(t, stage, "const float a=1.0;void main(){const float a=a;{const float a=a+a;}}")
		refused(t, stage, api.ErrType, "vec2 a;void main(){float ~a=a;}")
		passes(t, stage, "vec2 a;void main(){float a=a.x;}")
		refused(t, stage, api.ErrName, "void main(){float a=~b,b=a;}")
		passes(t, stage, "void main(){float a=1.0,b=a;}")
		passes(t, stage, "float f(){return 1.0;}void main(){float f=f();}")
	}
}

// listed answers a declaration of so many, of names that begin with a letter.
func listed(word, letter string, n int) string {
	text := ""
	for i := range n {
		text += fmt.Sprintf("%s %s%d;", word, letter, i)
	}
	return text
}

// P14.1: just MaxAttribs, MaxUniforms, MaxVaryings, and one more: ErrLong at that one, behind its name.
func TestLimits(t *testing.T) {
	if api.MaxAttribs != 8 || api.MaxUniforms != 32 || api.MaxVaryings != 4 {
		t.Error("limits")
	}
	for _, row := range []struct {
		word string
		most int
	}{{"attribute vec2", 8}, {"uniform bool", 32}, {"uniform sampler2D", 32}, {"varying float", 4}} {
		for _, stage := range both() {
			if strings.HasPrefix(row.word, "attribute") && stage == fragment {
				continue
			}
			full := listed(row.word, "a", row.most)
			passes(t, stage, full+"void main(){}")
			refused(t, stage, api.ErrLong, full+row.word+" ~b;void main(){}")
			refused(t, stage, api.ErrLong, full+row.word+" ~b,c;void main(){a;}")
			refused(t, stage, api.ErrName, full+row.word+" ~a0;void main(){}")
			refused(t, stage, api.ErrName, full+row.word+" ~abs;void main(){}")
			refused(t, stage, api.ErrName, full+row.word+" ~gl_a;void main(){}")
			refused(t, stage, api.ErrValue, full+row.word+" ~b=1;void main(){}")
			refused(t, stage, api.ErrLong, "void f(){}"+strings.ReplaceAll(strings.TrimSuffix(full, ";"), ";"+row.word, ",")+",~b;")
			passes(t, stage, full+"float b;const float c=1.0;void main(){float d;const float e=1.0;}")
		}
	}
	all := listed("attribute vec4", "a", 8) + listed("varying vec4", "v", 4) + listed("uniform vec4", "u", 32)
	passes(t, vertex, all+"void main(){}")
	passes(t, vertex, listed("uniform vec4", "u", 32)+listed("varying vec4", "v", 4)+listed("attribute vec4", "a", 8)+listed("float", "f", 60)+"void main(){}")
	refused(t, vertex, api.ErrLong, all+"varying float ~b;attribute float c;uniform float d;")
	refused(t, vertex, api.ErrLong, all+"uniform float ~b;attribute float c;varying float d;")
	refused(t, vertex, api.ErrLong, all+"attribute float ~b;uniform float c;varying float d;")
	refused(t, fragment, api.ErrPlace, "attribute vec4 ~a;"+listed("uniform int", "u", 33))
}
