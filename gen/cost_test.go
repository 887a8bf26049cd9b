package gen_test

import (
	"fmt"
	"strings"
	"testing"

	"paintbox/api"
	"paintbox/sense"
)

// form is a way to write shaders that cost more and more: what stands ahead of main's statements (which are behind the mark |), and one statement more.
type form struct {
	ahead string
	more  func(i int) string
}

// same answers the same statement each time.
func same(text string) func(int) string {
	return func(int) string { return text }
}

// numbered answers a statement with its number in the place of each #.
func numbered(text string) func(int) string {
	return func(i int) string { return strings.ReplaceAll(text, "#", fmt.Sprint(i)) }
}

// tell answers statements of main that lay some numbers into what comes of a run.
func tell(stage int, numbers string) string {
	if stage == vertex {
		return "gl_Position=vec4(" + numbers + ");"
	}
	return "gl_FragColor=vec4(" + numbers + ");"
}

// text answers a shader of a form that costs just this much.
func (f form) text(t *testing.T, stage, cost int) string {
	t.Helper()
	tail := tell(stage, "x.x,x.y,v.z,v.w") + "}"
	head := strings.Replace("uniform vec4 u;vec2 x;"+f.ahead, "|", "void main(){vec4 v=u;", 1)
	costs := func(body string) int { return sense.Cost(shader(t, stage, head+body+tail)) }
	none := costs("")
	each := costs(f.more(0)) - none
	body := strings.Repeat(";", (cost-none)%each)
	for i := range (cost - none) / each {
		body += f.more(i)
	}
	return head + body + tail
}

// forms answers shaders that ask for many registers, many instructions, many jumps, many of each.
func forms() map[string]form {
	return map[string]form{
		"nothing":    {"|", same(";")},
		"blocks":     {"|", same("{{}}")},
		"locals":     {"|", numbered("float a#;")},
		"values":     {"|float b=u.x;", numbered("float a#=b;b=a#+1.0;x.x=a0;")},
		"many":       {"|", numbered("bvec4 a#,b#,c#=bvec4(v),d#=c#;")},
		"deep":       {"|", same("x.x=(1.0+(v.x+(2.0+(v.y+(3.0+(v.z+(4.0+(v.w+(x.x+(x.y+(1.0+v.x)))))))))));")},
		"left":       {"|", same("x.y=v.x*v.y-v.z+v.w/v.x-1.0+x.x+x.y*v.x*v.x;")},
		"loops":      {"|", same("for(int i=0;i<7;i++)x.x+=float(i);")},
		"a loop":     {"|", same("for(int i=0;i<37;i++)x.x+=v.x*v.y;")},
		"in loops":   {"|", same("for(int i=0;i<3;i++)for(int k=0;k<3;k++){int a=i*k;x.x+=float(a);}")},
		"clamps":     {"|", same("v=clamp(v,x.x,x.y);")},
		"mixed":      {"|", same("v=mix(v,v.wzyx,0.5);v.xy=step(0.5,v.zw);")},
		"made":       {"|", same("v=vec4(true,1,v.x>v.y,bvec4(v));")},
		"more made":  {"|", same("v=vec4(ivec4(bvec4(ivec4(v))));")},
		"places":     {"|", same("v.wzyx.zy*=2.0;v.zx+=v.yw;")},
		"ifs":        {"|", same("if(v.x>x.x)x.x+=1.0;else if(v.y>1.0)x.y=x.x;else{float a=x.y;x.y=a+1.0;}")},
		"bars":       {"|", same("x.x+=v.x>0.0&&v.y>0.0||v.z>0.0&&!(v.w>0.0)?1.0:x.y;")},
		"conditions": {"|", same("x.x=v.x>1.0?v.y>2.0?x.x:x.y:v.z>3.0?1.0:2.0;")},
		"calls":      {"float f(float a){return a+1.0;}|", same("x.x=f(x.x);")},
		"void calls": {"void f(){x.x+=1.0;}|", same("f();")},
		"empty ones": {"void f(){}|", same("f();")},
		"arguments":  {"float f(float a,float b,float c){return a*b+c;}|", same("x.x=f(v.x,f(v.y,f(1.0,x.y,v.z),v.w),f(x.x,2.0,x.y));")},
		"returns":    {"float f(float a){for(int i=0;i<3;i++){if(a<float(i))return a;if(a>10.0)return 10.0;}return a-1.0;}|", same("x.x=f(v.x);")},
		"chain":      {chain(9) + "|", same("x.x=f9(v.x,x.y);")},
		"doubled":    {doubled(3) + "|", same("f3();")},
		"fields":     {"|", same("x=v.wz.yx+v.zyx.zx*v.xxxx.wz;")},
		"unread":     {"|", same("v;u;v+u;1;true;vec4(u);")},
		"whole":      {wholes(90) + "|", same("x+=g7+k3;")},
	}
}

// chain answers functions of which each calls the one ahead of it, while values of its own wait.
func chain(n int) string {
	text := "float f0(float a,float b){return a+b;}"
	for i := range n {
		text += fmt.Sprintf("float f%d(float a,float b){float c=a+b,d=c;return a-(b+(c+f%d(b,d)));}", i+1, i)
	}
	return text
}

// doubled answers functions of which each calls the one ahead of it twice.
func doubled(n int) string {
	text := "void f0(){x.x+=1.0;}"
	for i := range n {
		text += fmt.Sprintf("void f%d(){f%d();f%d();}", i+1, i, i)
	}
	return text
}

// wholes answers n declarations of the whole shader.
func wholes(n int) string {
	text := ""
	for i := range n / 2 {
		text += fmt.Sprintf("vec2 g%d;const float k%d=1.5;", i, i)
	}
	return text
}

// P17.1, P17.2: there is a code of just MaxCost, of shaders of all forms, and it means them; one more is refused.
func TestCostAtBound(t *testing.T) {
	for name, f := range forms() {
		for _, stage := range []int{vertex, fragment} {
			for cost := api.MaxCost - 2; cost <= api.MaxCost+3; cost++ {
				c := shader(t, stage, f.text(t, stage, cost))
				if got := sense.Cost(c); got != cost {
					t.Fatalf("%s costs %d; want %d", name, got, cost)
				}
				if cost > api.MaxCost {
					refused(t, c, api.ErrLong)
					continue
				}
				x := generated(t, c)
				w := chance(cost)
				for range 4 {
					means(t, c, x, api.Env{Uniforms: []api.Vec{w.vector()}})
				}
				means(t, c, x, api.Env{Uniforms: []api.Vec{numbers(1, 2, 3, 4)}})
			}
		}
	}
}

// P17.2: forms of all costs have a code.
func TestAllCosts(t *testing.T) {
	for _, f := range forms() {
		for cost := 260; cost < api.MaxCost; cost += 31 {
			stage := 1 + cost%2
			c := shader(t, stage, f.text(t, stage, cost))
			means(t, c, generated(t, c), api.Env{Uniforms: []api.Vec{numbers(1, -2, 3, 0.5)}})
		}
	}
}

// P17.1: what costs far more, or more than the bound of runs, is refused; what is never done costs even so.
func TestFarTooMuch(t *testing.T) {
	far := "vec2 x;" + doubled(100)
	for _, stage := range []int{vertex, fragment} {
		for _, main := range []string{
			"f100();", "f40();f41();", "if(false)f100();", "return;f100();", "false&&x.x>0.0;if(false)f9();", "for(int i=0;i<64;i++)for(int k=0;k<64;k++)for(int m=0;m<64;m++)f100();", "for(int i=0;i<64;i++)for(int k=0;k<3;k++);", "for(int i=0;i<64;i++)x.x+=x.y;" + "f1();",
		} {
			c := shader(t, stage, far+"void main(){"+main+"}")
			if sense.Cost(c) <= api.MaxCost {
				t.Fatalf("%s costs %d", main, sense.Cost(c))
			}
			refused(t, c, api.ErrLong)
		}
	}
}

// P17.1, P17.2: what is not done at all, not once in a loop and in no function that is called, costs nothing and asks for nothing, however much it is.
func TestNotLaid(t *testing.T) {
	far := "vec2 x;" + doubled(100) + "float many(){" + strings.Repeat("float a=1.0;{", 20) + strings.Repeat("}", 20) + "return 1.0;}"
	for main, want := range map[string]api.Vec{
		"gl_FragColor.x=1.0;":                                                             numbers(1),
		"for(int i=0;i<0;i++)f100();gl_FragColor.x=2.0;":                                  numbers(2),
		"for(int i=5;i<-5;i++){f100();f100();discard;}f0();gl_FragColor=x.xxxx;":          numbers(1, 1, 1, 1),
		"for(int i=0;i<2;i++){for(int k=0;k<0;k++)f90();f1();}gl_FragColor=x.xyxy;":       numbers(4, 0, 4),
		"for(int i=0;i<0;i++){for(int k=0;k<64;k++)x.x=many();}gl_FragColor.x=x.x+3.0;":   numbers(3),
		"for(int i=0;i<0;i++){int a,b,c,d,e,f;float g=many();return;}gl_FragColor.x=5.0;": numbers(5),
	} {
		paints(t, far+"void main(){"+main+"}", api.Env{}, want)
	}
}

// P17.1: nodes as deep as may be.
func TestDeep(t *testing.T) {
	right := strings.Repeat("1.0+(", 24) + "u.x" + strings.Repeat(")", 24)
	left := "u.x" + strings.Repeat("-1.0", 24)
	signs := strings.Repeat("-(", 24) + "u.x" + strings.Repeat(")", 24)
	conditions := strings.Repeat("u.x>1.0?1.0:(", 20) + "u.y" + strings.Repeat(")", 20)
	assigns := strings.Repeat("v.x=1.0+(", 11) + "u.x" + strings.Repeat(")", 11)
	blocks := strings.Repeat("{float a=a+1.0;", 26) + "gl_FragColor.x=a;" + strings.Repeat("}", 26)
	e := api.Env{Uniforms: []api.Vec{numbers(0.5, 7)}}
	for text, want := range map[string]api.Vec{"gl_FragColor.x=" + right + ";": numbers(24.5), "gl_FragColor.x=" + left + ";": numbers(-23.5), "gl_FragColor.x=" + signs + ";": numbers(0.5), "gl_FragColor.x=" + conditions + ";": numbers(7), "vec2 v;gl_FragColor.x=" + assigns + ";": numbers(11.5), "float a=0.0;" + blocks: numbers(26)} {
		paints(t, "uniform vec2 u;void main(){"+text+"}", e, want)
	}
	long := "float f0(float a){return a+1.0;}"
	for i := range 36 {
		long += fmt.Sprintf("float f%d(float a){return f%d(a)+1.0;}", i+1, i)
	}
	paints(t, "uniform vec2 u;"+long+"void main(){gl_FragColor.x=f36(u.x);}", e, numbers(37.5))
}

// P17.2: as many variables as MaxCost allows, all of them held at the same time, in one scope, in the whole shader's, and scope within scope.
func TestManyVariables(t *testing.T) {
	list := func(n int) string {
		var l []string
		for i := range n {
			l = append(l, fmt.Sprint("a", i))
		}
		return strings.Join(l, ",")
	}
	const use = "a0=1.0;a339=a0+2.0;a200+=a339;gl_FragColor=vec4(a0,a339,a200,a1);"
	want := numbers(1, 3, 3, 0)
	e := api.Env{}
	paints(t, "float "+list(360)+";void main(){"+use+"}", e, want)
	paints(t, "void main(){float "+list(360)+";"+use+"}", e, want)
	paints(t, "void f(){float "+list(360)+";"+use+"}void main(){f();}", e, want)
	refused(t, shader(t, fragment, "void main(){float "+list(400)+";"+use+"}"), api.ErrLong)
	paints(t, "void f(float b){float "+list(100)+";a99=b;gl_FragColor.x+=a99+a98;a98=b;}void main(){f(1.0);f(2.0);f(4.0);}", e, numbers(7))
	paints(t, "void main(){for(int i=0;i<3;i++){float "+list(100)+";a99+=float(i);gl_FragColor.x+=a99+a98;a98=7.0;}}", e, numbers(3))
}
