package gen_test

import (
	"testing"

	"paintbox/api"
)

// P17.1: declarations hold their values in order, noughts without one, whatever stood in their registers; those of inner scopes hide outer ones.
func TestDeclarations(t *testing.T) {
	rows(t, "float m=5.0;", api.Env{}, map[string]api.Vec{
		"float a,b=2.0,c=b+1.0,d=c*b;gl_FragColor=vec4(a,b,c,d);":                                                                   numbers(0, 2, 3, 6),
		"vec3 a;bvec2 b;ivec2 c;gl_FragColor=vec4(a.z,b.y,c.y,1.0);":                                                                numbers(0, 0, 0, 1),
		"float a=1.0;{float a=a+1.0;gl_FragColor.x=a;a=9.0;}gl_FragColor.y=a;":                                                      numbers(2, 1),
		"float a=1.0;{a=2.0;float a=a*10.0;gl_FragColor.x=a;}gl_FragColor.y=a;":                                                     numbers(20, 2),
		"float m=m+1.0;gl_FragColor.x=m;":                                                                                           numbers(6),
		"m+=1.0;{float m=m*2.0;m+=1.0;gl_FragColor.x=m;}gl_FragColor.y=m;":                                                          numbers(13, 6),
		"const float a=2.0,b=a*a;gl_FragColor=vec4(a,b,m,0);":                                                                       numbers(2, 4, 5),
		"float a=1.0;if(true)float a=7.0;gl_FragColor.x=a;":                                                                         numbers(1),
		"float a=1.0;if(false);else float a=7.0;gl_FragColor.x=a;":                                                                  numbers(1),
		"float a=1.0;for(int i=0;i<2;i++)float a=7.0;gl_FragColor.x=a;":                                                             numbers(1),
		"vec2 gl=vec2(1.0,2.0);vec2 x=gl.yx;gl_FragColor=vec4(gl,x);":                                                               numbers(1, 2, 2, 1),
		"{vec4 a=vec4(1.0,2.0,3.0,4.0);}vec4 b;gl_FragColor=b;":                                                                     numbers(0),
		"{vec4 a=vec4(1.0,2.0,3.0,4.0);}float b=5.0;vec4 c;gl_FragColor=c+b;":                                                       numbers(5, 5, 5, 5),
		"vec4(1.0)+vec4(2.0)*vec4(3.0);vec4 b,c,d,e;gl_FragColor=b+c+d+e;":                                                          numbers(0),
		"{vec4 a=vec4(1.0);{vec4 b=vec4(2.0);}{vec4 c;c+=a;gl_FragColor+=c;}}{vec2 d;gl_FragColor.zw+=d;}":                          numbers(1, 1, 1, 1),
		"float a=1.0;{float b=a+1.0;{float a=b+1.0;{float b=a+1.0;gl_FragColor=vec4(a,b,0,0);}gl_FragColor.z=b;}gl_FragColor.w=a;}": numbers(3, 4, 2, 1),
		"vec2 a=vec2(1.0,2.0);vec4 b;b.xw=a;vec3 c=b.wzx;gl_FragColor=vec4(c,c==vec3(2.0,0.0,1.0));":                                numbers(2, 0, 1, 1),
		";;{}{;}gl_FragColor=vec4(1.0);;":                                                                                           numbers(1, 1, 1, 1),
		"gl_FragColor=vec4(1.0);gl_FragColor;gl_FragColor*2.0;1;true;m;":                                                            numbers(1, 1, 1, 1),
	})
}

// P17.1: one of the statements of an if is done, or none.
func TestIf(t *testing.T) {
	rows(t, "float n;bool f(bool b){n+=1.0;return b;}", api.Env{}, map[string]api.Vec{
		"if(true)gl_FragColor.x=1.0;":                                                             numbers(1),
		"if(false)gl_FragColor.x=1.0;":                                                            numbers(0),
		"if(true)gl_FragColor.x=1.0;else gl_FragColor.y=1.0;":                                     numbers(1),
		"if(false)gl_FragColor.x=1.0;else gl_FragColor.y=1.0;":                                    numbers(0, 1),
		"if(false){gl_FragColor.x=1.0;}else if(true)gl_FragColor.y=1.0;else gl_FragColor.z=1.0;":  numbers(0, 1),
		"if(false){gl_FragColor.x=1.0;}else if(false)gl_FragColor.y=1.0;else gl_FragColor.z=1.0;": numbers(0, 0, 1),
		"if(true)if(false)gl_FragColor.x=1.0;else gl_FragColor.y=1.0;":                            numbers(0, 1),
		"if(false)if(false)gl_FragColor.x=1.0;else gl_FragColor.y=1.0;":                           numbers(0),
		"if(f(true))gl_FragColor.x=n;else gl_FragColor.y=n;":                                      numbers(1),
		"if(f(false))gl_FragColor.x=n;else gl_FragColor.y=n;":                                     numbers(0, 1),
		"bool b=true;if(b)b=false;else gl_FragColor.x=1.0;if(b)gl_FragColor.y=1.0;":               numbers(0),
		"bool b=false;if(b)gl_FragColor.x=1.0;else b=true;if(b)gl_FragColor.y=1.0;":               numbers(0, 1),
		"if(2>1){gl_FragColor.x=1.0;gl_FragColor.y=2.0;}gl_FragColor.z=3.0;":                      numbers(1, 2, 3),
		"if(1>2){gl_FragColor.x=1.0;gl_FragColor.y=2.0;}gl_FragColor.z=3.0;":                      numbers(0, 0, 3),
		"if(true);else gl_FragColor.x=1.0;gl_FragColor.y=1.0;":                                    numbers(0, 1),
		"if(true){}else{gl_FragColor.x=1.0;}if(false){gl_FragColor.x=1.0;}else{}":                 numbers(0),
	})
}

// P17.1: which way an if goes is known to the surroundings alone.
func TestIfByUniform(t *testing.T) {
	const text = "uniform float u;void main(){if(u<1.0)gl_FragColor.x=1.0;else if(u<2.0){gl_FragColor.x=2.0;if(u>1.5)gl_FragColor.y=5.0;}else if(u<3.0);else{gl_FragColor.x=3.0;return;}gl_FragColor.w=1.0;}"
	for u, want := range map[float64]api.Vec{0: numbers(1, 0, 0, 1), 1: numbers(2, 0, 0, 1), 1.75: numbers(2, 5, 0, 1), 2.5: numbers(0, 0, 0, 1), 3: numbers(3)} {
		paints(t, text, api.Env{Uniforms: []api.Vec{numbers(u, 9, 9, 9)}}, want)
	}
}

// P17.1: loops: how many rounds, with which numbers, and what is declared anew in each.
func TestFor(t *testing.T) {
	rows(t, "", api.Env{}, map[string]api.Vec{
		"int n;for(int i=0;i<5;i++)n=n*10+i;gl_FragColor.x=float(n);":                                                    numbers(1234),
		"int n;for(int i=3;i<4;i++)n=n*10+i;gl_FragColor.x=float(n);":                                                    numbers(3),
		"int n=7;for(int i=3;i<3;i++)n=i;gl_FragColor.x=float(n);":                                                       numbers(7),
		"int n=7;for(int i=3;i<2;i++)n=i;gl_FragColor.x=float(n);":                                                       numbers(7),
		"int n=7;for(int i=3;i<-2;i++)n=i;gl_FragColor.x=float(n);":                                                      numbers(7),
		"int n=7;for(int i=-3;i<-3;i++)n=i;gl_FragColor.x=float(n);":                                                     numbers(7),
		"int n=7;for(int i=32767;i<-32767;i++)n=i;gl_FragColor.x=float(n);":                                              numbers(7),
		"int n,m;for(int i=-3;i<2;i++){n+=1;m=m*2+i;}gl_FragColor=vec4(n,m,0,0);":                                        numbers(5, -67),
		"int n,m;for(int i=-3;i<-1;i++){n+=1;m=m*10+i;}gl_FragColor=vec4(n,m,0,0);":                                      numbers(2, -32),
		"int n;for(int i=0;i<64;i++)n+=i;gl_FragColor.x=float(n);":                                                       numbers(2016),
		"int n;for(int i=-64;i<0;i++)n+=i;gl_FragColor.x=float(n);":                                                      numbers(-2080),
		"int n;for(int i=-32767;i<-32765;i++)n=i;gl_FragColor.x=float(n);":                                               numbers(-32766),
		"int n;for(int i=32765;i<32767;i++)n=i;gl_FragColor.x=float(n);":                                                 numbers(32766),
		"int n;for(int i=1;i<4;i++)for(int k=1;k<3;k++)n=n*10+i*k;gl_FragColor=vec4(n/1000,n-n/1000*1000,0,0);":          numbers(122, 436),
		"int n;for(int i=0;i<3;i++)for(int k=2;k<2;k++)n+=1;gl_FragColor=vec4(n);":                                       numbers(0),
		"int n;for(int i=0;i<2;i++)for(int k=0;k<2;k++)for(int m=0;m<2;m++)n=n*2+i*k*m;gl_FragColor=vec4(n);":            numbers(1, 1, 1, 1),
		"int n;for(int i=0;i<2;i++){int i=i+5;n=n*10+i;}gl_FragColor.x=float(n);":                                        numbers(56),
		"int n;for(int i=0;i<2;i++){for(int i=7;i<9;i++)n=n*10+i;n=n*10+i;}gl_FragColor=vec4(n/1000,n-n/1000*1000,0,0);": numbers(780, 781),
		"float n;for(int i=0;i<3;i++){float a;a+=1.0;n+=a;}gl_FragColor.x=n;":                                            numbers(3),
		"float n;for(int i=0;i<3;i++){vec2 a,b=a+1.0;a=b;b+=a;n+=a.x+b.y;}gl_FragColor.x=n;":                             numbers(9),
		"float n,a;for(int i=0;i<3;i++){a+=1.0;n+=a;}gl_FragColor.x=n;":                                                  numbers(6),
		"float n;for(int i=0;i<3;i++){const float k=2.0;float a=k;a*=2.0;n+=a;}gl_FragColor.x=n;":                        numbers(12),
		"int i=9;for(int i=0;i<2;i++);gl_FragColor.x=float(i);":                                                          numbers(9),
		"for(int i=0;i<4;i++)gl_FragColor+=vec4(i==0,i==1,i<2,1.0);":                                                     numbers(1, 1, 2, 4),
		"for(int i=0;i<4;i++)if(i>1)gl_FragColor.x+=float(i);else gl_FragColor.y+=float(i+1);":                           numbers(5, 3),
		"for(int i=0;i<9;i++){gl_FragColor.x+=1.0;if(i>3)return;}gl_FragColor.y=1.0;":                                    numbers(5),
		"for(int i=0;i<3;i++)for(int k=0;k<3;k++){gl_FragColor.x+=1.0;if(i*k==2)return;}gl_FragColor.y=1.0;":             numbers(6),
	})
}

// P17.1: functions: parameters that are written, results, none met, calls within arguments of the same function.
func TestFunctions(t *testing.T) {
	for text, want := range map[string]api.Vec{
		"float f(float a){a*=2.0;return a;}void main(){float a=3.0;gl_FragColor=vec4(f(a),a,f(a),f(1.0));}":                                                   numbers(6, 3, 6, 2),
		"float f(float a,float b){return a-b;}void main(){gl_FragColor=vec4(f(5.0,3.0),f(f(9.0,1.0),2.0),f(2.0,f(9.0,1.0)),f(f(8.0,1.0),f(4.0,2.0)));}":       numbers(2, 6, -6, 5),
		"float f(float a,float b){a+=b;b=0.0;return a;}void main(){gl_FragColor.x=f(1.0,f(10.0,f(100.0,1000.0)));}":                                           numbers(1111),
		"float f(float a,float b){a=b;b=7.0;return a;}void main(){float a=1.0,b=2.0;gl_FragColor=vec4(f(b,a),a,b,f(a,a));}":                                   numbers(1, 1, 2, 1),
		"float f(float x){if(x>1.0){return 7.0;}}void main(){gl_FragColor=vec4(f(2.0),f(0.0),f(3.0),f(1.0));}":                                                numbers(7, 0, 7, 0),
		"float f(float x){if(x>1.0){return 7.0;}}void main(){float a=f(2.0);float b=f(0.0);vec2 c=vec2(3.0)+f(1.0);gl_FragColor=vec4(a,b,c);}":                numbers(7, 0, 3, 3),
		"vec3 f(){}void main(){gl_FragColor=vec4(f(),1.0);}":                                                                                                  numbers(0, 0, 0, 1),
		"vec3 f(){}void main(){{vec4 a=vec4(9.0);}vec3 b=f();gl_FragColor=vec4(b+f(),1.0);}":                                                                  numbers(0, 0, 0, 1),
		"int f(int n){for(int i=1;i<4;i++){for(int k=1;k<4;k++)if(i*k==n)return i*10+k;}return -1;}void main(){gl_FragColor=vec4(f(6));}":                     numbers(23, 23, 23, 23),
		"int f(int n){for(int i=1;i<4;i++){for(int k=1;k<4;k++)if(i*k==n)return i*10+k;}return -1;}void main(){gl_FragColor=vec4(f(1)+f(7));}":                numbers(10, 10, 10, 10),
		"float n;void f(){n+=1.0;return;n+=10.0;}void main(){f();f();gl_FragColor.x=n;}":                                                                      numbers(2),
		"float n;void f(){for(int i=0;i<5;i++){n+=1.0;if(i==2)return;}n=99.0;}void main(){f();gl_FragColor.x=n;}":                                             numbers(3),
		"float n;void f(){{{n+=1.0;return;}}n=99.0;}void main(){f();gl_FragColor.x=n;}":                                                                       numbers(1),
		"float n;void f(bool b){if(b){n+=1.0;return;}else{n+=2.0;return;}n=99.0;}void main(){f(true);f(false);f(false);gl_FragColor.x=n;}":                    numbers(5),
		"float f(bool b){if(b)return 1.0;else return 2.0;}void main(){gl_FragColor=vec4(f(true),f(false),f(true)+f(false),f(!true));}":                        numbers(1, 2, 3, 2),
		"float n;float f(){n+=1.0;return n;}void main(){gl_FragColor=vec4(f(),f(),n,f());}":                                                                   numbers(1, 2, 2, 3),
		"float n=1.0;float f(float a){n=a;return n*2.0;}void main(){gl_FragColor.x=n+f(10.0)+n;}":                                                             numbers(31),
		"float n=1.0;float f(float a){n=a;return n*2.0;}void main(){gl_FragColor=vec4(n,f(10.0),n,f(n));}":                                                    numbers(1, 20, 10, 20),
		"float n=1.0;float f(float a,float b,float c){return a*100.0+b*10.0+c;}float g(){return n+=1.0;}void main(){gl_FragColor.x=f(n,g(),n);}":              numbers(122),
		"float f(float a){return a+1.0;}float g(float a){return f(a)*f(a+1.0);}void main(){gl_FragColor=vec4(g(1.0),g(f(1.0)),f(g(1.0)),g(g(1.0)));}":         numbers(6, 12, 7, 56),
		"float f(float a){a+=1.0;return a;}float g(float a){float b=f(a);return a*10.0+b;}void main(){float a=f(g(1.0)),b=a;gl_FragColor=vec4(a,b,g(a),0);}":  numbers(13, 13, 144),
		"float f(float a){float b;b+=a;return b;}void main(){gl_FragColor=vec4(f(1.0),f(2.0),f(3.0),0);}":                                                     numbers(1, 2, 3),
		"float f(float a){return a;}float g(){return f(2.0);f(3.0);}void main(){f(5.0);gl_FragColor.x=g();}":                                                  numbers(2),
		"float f(float a){return a;}float g(){f(2.0);}void main(){gl_FragColor.x=g();}":                                                                       numbers(0),
		"float f(float a){return a;}void g(){f(2.0);return;}float h(){g();}void main(){f(5.0);gl_FragColor.x=h();}":                                           numbers(0),
		"vec4 f(vec4 v){v.xy=v.yx;return v.wzyx;}void main(){vec4 v=vec4(1.0,2.0,3.0,4.0);gl_FragColor=f(v)+v;}":                                              numbers(5, 5, 4, 6),
		"bool f(bool b){return !b;}ivec2 g(ivec2 a){a.y/=2;return a;}void main(){gl_FragColor=vec4(f(true),f(false),g(ivec2(5,-5)));}":                        numbers(0, 1, 5, -2),
		"float a=1.0;float f(){return a;}void main(){float a=2.0;gl_FragColor=vec4(a,f(),0,0);}":                                                              numbers(2, 1),
		"float a=1.0;void f(float a){a=7.0;}void g(){a=3.0;}void main(){f(a);gl_FragColor.x=a;g();gl_FragColor.y=a;{float a=4.0;g();f(a);gl_FragColor.z=a;}}": numbers(1, 3, 4),
		"float f(float f){return f*2.0;}void main(){gl_FragColor.x=f(4.0);}":                                                                                  numbers(8),
		"float f(int n,float x){for(int i=0;i<3;i++)if(i<n)x*=2.0;return x;}void main(){for(int i=0;i<3;i++)gl_FragColor.x+=f(i,1.0);}":                       numbers(7),
		"float f(){return gl_FragColor.x+=1.0;}void main(){gl_FragColor=vec4(f(),f(),f(),f());}":                                                              numbers(1, 2, 3, 4),
		"void main(){gl_FragColor=vec4(1.0);return;gl_FragColor=vec4(2.0);}":                                                                                  numbers(1, 1, 1, 1),
		"float f(){return 1.0;return 2.0;}void main(){gl_FragColor=vec4(f());}":                                                                               numbers(1, 1, 1, 1),
	} {
		paints(t, text, api.Env{}, want)
		if inVertex, may := forVertex(text); may {
			comes(t, vertex, inVertex, api.Env{}, api.Result{Position: want})
		}
	}
}

// P17.1: a return within what a value of a return calls, within loops within branches: each ends its own function alone.
func TestReturns(t *testing.T) {
	const ahead = "int f(int a){for(int i=0;i<3;i++)if(a<i)return i;return a+10;}int g(int a){if(a>2)return f(a)+f(f(a-2));for(int i=0;i<2;i++){if(f(i)>a)return f(i)*100;}return f(a);}"
	for text, want := range map[string]api.Vec{
		"f(0)": numbers(1), "f(1)": numbers(2), "f(2)": numbers(12), "f(5)": numbers(15), "f(f(1))": numbers(12),
		"g(5)": numbers(38), "g(0)": numbers(100), "g(1)": numbers(200), "g(2)": numbers(12), "g(3)": numbers(25),
	} {
		paints(t, ahead+"void main(){gl_FragColor.x=float("+text+");}", api.Env{}, want)
	}
}

// P17.1: a discard ends all, wherever it stands and whatever was written; only Discard is told.
func TestDiscard(t *testing.T) {
	const ahead = "float n;float f(){gl_FragColor=vec4(1.0);discard;return 1.0;}float g(float a){return a;}void v(){discard;}bool b(){discard;}"
	for _, statements := range []string{
		"discard;", "gl_FragColor=vec4(1.0);discard;", "gl_FragColor=vec4(1.0);discard;gl_FragColor=vec4(2.0);", "if(true)discard;", "if(false);else discard;", "{{discard;}}", "for(int i=0;i<5;i++)if(i==4)discard;", "for(int i=0;i<5;i++)if(i==1)discard;", "for(int i=0;i<3;i++)for(int k=0;k<3;k++)if(i+k==1)discard;", "for(int i=0;i<5;i++)if(i==2)f();", "for(int i=0;i<5;i++){discard;}",
		"f();", "v();", "gl_FragColor=vec4(f());", "float a=f();", "float a=1.0,c=f(),d=2.0;", "g(f());", "g(g(f())+1.0);", "n=f();", "n+=f();", "n=1.0+f();", "n=f()*2.0;", "-f();", "vec2(f(),1.0).y;", "abs(f());", "max(1.0,f());", "true&&b();", "false||b();", "b()&&true;", "b()||true;", "!b();",
		"true?f():1.0;", "false?1.0:f();", "b()?1.0:2.0;", "if(b())n=1.0;", "if(b())n=1.0;else n=2.0;", "for(int i=0;i<2;i++)f();", "for(int i=0;i<2;i++)if(i==1)n=f();", "if(f()>0.0)return;", "f()==f();", "vec4 c;c.x=f();gl_FragColor=c;return;",
	} {
		for _, behind := range []string{"", "gl_FragColor=vec4(3.0);", "return;", "discard;", "f();"} {
			comes(t, fragment, ahead+"void main(){"+statements+behind+"}", api.Env{}, api.Result{Discard: true})
		}
	}
	for _, text := range []string{
		"float f(){return g(g(e()));}", "float f(){for(int i=0;i<3;i++)for(int k=0;k<3;k++)if(i*k==2)return e();return 2.0;}", "float f(){if(e()>1.0)return 1.0;return 2.0;}", "float f(){e();}", "float f(){vec2 a=vec2(1.0,e());return a.x;}",
	} {
		comes(t, fragment, "float g(float a){return a;}float e(){discard;}"+text+"void main(){gl_FragColor=vec4(2.0);gl_FragColor.x=f();}", api.Env{}, api.Result{Discard: true})
	}
	rows(t, ahead, api.Env{}, map[string]api.Vec{
		"gl_FragColor=vec4(2.0);if(false)discard;":                  numbers(2, 2, 2, 2),
		"gl_FragColor=vec4(2.0);return;discard;":                    numbers(2, 2, 2, 2),
		"gl_FragColor=vec4(2.0);for(int i=0;i<0;i++)discard;":       numbers(2, 2, 2, 2),
		"gl_FragColor=vec4(2.0);false&&b();true||b();true?1.0:f();": numbers(2, 2, 2, 2),
		"gl_FragColor=vec4(2.0);for(int i=0;i<3;i++)if(i>5)v();":    numbers(2, 2, 2, 2),
	})
}

// P17.1: whether all ends with a discard is known to the surroundings alone.
func TestDiscardByUniform(t *testing.T) {
	const text = "uniform float u;float f(float a){if(a>u)discard;return a;}void main(){gl_FragColor=vec4(f(1.0));for(int i=2;i<5;i++){gl_FragColor.y=f(float(i));if(u<0.5+float(i))return;}}"
	for u, want := range map[float64]api.Result{0.5: {Discard: true}, 1: {Discard: true}, 2: {Color: numbers(1, 2, 1, 1)}, 2.5: {Discard: true}, 3.25: {Color: numbers(1, 3, 1, 1)}, 9: {Color: numbers(1, 4, 1, 1)}} {
		comes(t, fragment, text, api.Env{Uniforms: []api.Vec{numbers(u, 9, 9, 9)}}, want)
	}
}

// P17.1: values of the whole shader's scope are held ahead of main, wherever they stand; those without one hold noughts.
func TestWhole(t *testing.T) {
	for text, want := range map[string]api.Vec{
		"float a=1.0,b,c=3.0;const float d=4.0;void main(){gl_FragColor=vec4(a,b,c,d);}":                                                               numbers(1, 0, 3, 4),
		"const float a=2.0;const float b=a*a,c=a+b;float d=c-a;void main(){gl_FragColor=vec4(a,b,c,d);}":                                               numbers(2, 4, 6, 4),
		"vec4 a=vec4(1.0)+vec4(2.0)*vec4(3.0),b,c,d;void main(){gl_FragColor=b+c+d;}":                                                                  numbers(0),
		"float a=1.0;void f(){a+=1.0;}void main(){f();f();gl_FragColor.x=a;}":                                                                          numbers(3),
		"const vec4 k=vec4(1.0,2.0,3.0,4.0);vec2 a=k.wz;ivec2 b=ivec2(k);bool c=k.x<k.y;void main(){gl_FragColor=vec4(a,b);gl_FragColor.x*=float(c);}": numbers(4, 3, 1, 2),
		"const bool k=true;const float a=k?1.0:2.0,b=!k||k&&k?3.0:4.0;void main(){gl_FragColor=vec4(a,b,0,0);}":                                        numbers(1, 3),
		"float a=1.0;void main(){gl_FragColor.x=a;a=2.0;gl_FragColor.y=a;}float b=7.0;":                                                                numbers(1, 2),
		"vec3 a;void main(){a.z=1.0;gl_FragColor=vec4(a,1.0);}":                                                                                        numbers(0, 0, 1, 1),
		"ivec2 a=ivec2(3,-4);bvec3 b=bvec3(1,0,1);int c;bool d;void main(){c+=a.x;d=b.z;a.y=c;gl_FragColor=vec4(a,d,b.y);}":                            numbers(3, 3, 1, 0),
	} {
		paints(t, text, api.Env{}, want)
		inVertex, _ := forVertex(text)
		comes(t, vertex, inVertex, api.Env{}, api.Result{Position: want})
	}
}
