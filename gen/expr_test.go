package gen_test

import (
	"fmt"
	"strings"
	"testing"

	"paintbox/api"
	"paintbox/sense"
)

// P17.1: numbers, and what stands behind their sizes.
func TestLeaves(t *testing.T) {
	rows(t, "", api.Env{}, map[string]api.Vec{
		"gl_FragColor=vec4(0.5,1.5,0.0,32767.0);":                                  numbers(0.5, 1.5, 0, 32767),
		"gl_FragColor=vec4(float(0),float(7),float(32767),float(-32767));":         numbers(0, 7, 32767, -32767),
		"gl_FragColor=vec4(float(true),float(false),float(!true),float(!false));":  numbers(1, 0, 0, 1),
		"int a=32767*2+2;gl_FragColor=vec4(float(a),float(a/2),float(-a),0.0);":    {api.Most, api.Most, api.Least, 0},
		"int a=32767*2+2;a*=a;gl_FragColor=vec4(float(a),float(a-1==-1),0.0,0.0);": numbers(0, 1, 0, 0),
	})
}

// P17.1: operators ahead of a value.
func TestUnary(t *testing.T) {
	rows(t, "", api.Env{}, map[string]api.Vec{
		"gl_FragColor=-vec4(1.0,-2.0,0.0,0.5);":                                  numbers(-1, 2, 0, -0.5),
		"vec4 a;a.xy=-vec2(1.0,2.0);gl_FragColor=a;":                             numbers(-1, -2, 0, 0),
		"gl_FragColor=vec4(-ivec4(1,-2,0,7));":                                   numbers(-1, 2, 0, -7),
		"float a=-32767.0-1.0;gl_FragColor=vec4(a,-a,- -a,0.0);":                 {api.Least, api.Most, -api.Most, 0},
		"int a=-32767*256*256-256*256;gl_FragColor=vec4(float(-a==a),0,0,0);":    numbers(1, 0, 0, 0),
		"bool a=true;gl_FragColor=vec4(float(!a),float(!!a),float(!(1<2)),0.0);": numbers(0, 1, 0, 0),
	})
}

// P17.1: operators between two; a plain side stands in all places, either way round.
func TestBinary(t *testing.T) {
	rows(t, "", api.Env{}, map[string]api.Vec{
		"gl_FragColor=vec4(1.0,2.0,3.0,4.0)+vec4(5.0,6.0,7.0,8.0);":             numbers(6, 8, 10, 12),
		"gl_FragColor=vec4(1.0,2.0,3.0,4.0)-vec4(5.0,5.0,1.0,1.0);":             numbers(-4, -3, 2, 3),
		"gl_FragColor=vec4(1.0,2.0,3.0,4.0)*vec4(5.0,6.0,7.0,0.5);":             numbers(5, 12, 21, 2),
		"gl_FragColor=vec4(1.0,2.0,3.0,4.0)/vec4(2.0,4.0,0.5,0.0);":             {32768, 32768, 6 * one, api.Most},
		"gl_FragColor=vec4(1.0,2.0,3.0,4.0)+10.0;":                              numbers(11, 12, 13, 14),
		"gl_FragColor=10.0+vec4(1.0,2.0,3.0,4.0);":                              numbers(11, 12, 13, 14),
		"gl_FragColor=vec4(1.0,2.0,3.0,4.0)-10.0;":                              numbers(-9, -8, -7, -6),
		"gl_FragColor=10.0-vec4(1.0,2.0,3.0,4.0);":                              numbers(9, 8, 7, 6),
		"gl_FragColor=vec4(1.0,2.0,3.0,4.0)*10.0;":                              numbers(10, 20, 30, 40),
		"gl_FragColor=10.0*vec4(1.0,2.0,3.0,4.0);":                              numbers(10, 20, 30, 40),
		"gl_FragColor=vec4(1.0,2.0,3.0,4.0)/2.0;":                               numbers(0.5, 1, 1.5, 2),
		"gl_FragColor=6.0/vec4(1.0,2.0,3.0,4.0);":                               numbers(6, 3, 2, 1.5),
		"gl_FragColor=vec4(vec2(1.0,2.0)+10.0,10.0*vec2(1.0,2.0));":             numbers(11, 12, 10, 20),
		"gl_FragColor=vec4(vec3(1.0,2.0,3.0)-1.0,1.0-2.0);":                     numbers(0, 1, 2, -1),
		"gl_FragColor=vec4(ivec4(7,-7,1,0)/2);":                                 numbers(3, -3, 0, 0),
		"gl_FragColor=vec4(7/ivec4(2,-2,0,8));":                                 numbers(3, -3, 0, 0),
		"gl_FragColor=vec4(ivec4(1,2,3,4)*3+ivec4(1,0,1,0));":                   numbers(4, 6, 10, 12),
		"gl_FragColor=vec4(3-ivec4(1,2,3,4));":                                  numbers(2, 1, 0, -1),
		"gl_FragColor=vec4(ivec4(1,2,3,4)-3);":                                  numbers(-2, -1, 0, 1),
		"gl_FragColor=vec4(1.0-2.0-3.0,8.0/2.0/2.0,2.0+3.0*4.0,(2.0+3.0)*4.0);": numbers(-4, 2, 14, 20),
		"vec4 a=vec4(9.0);a.xy=vec2(1.0)+vec2(2.0);gl_FragColor=a;":             numbers(3, 3, 9, 9),
	})
}

// P17.1: comparisons.
func TestCompare(t *testing.T) {
	rows(t, "", api.Env{}, map[string]api.Vec{
		"gl_FragColor=vec4(1.0<2.0,2.0<1.0,1.0<1.0,-1.0<0.0);":                           numbers(1, 0, 0, 1),
		"gl_FragColor=vec4(1.0>2.0,2.0>1.0,1.0>1.0,-1.0>0.0);":                           numbers(0, 1, 0, 0),
		"gl_FragColor=vec4(1.0<=2.0,2.0<=1.0,1.0<=1.0,-1.0<=0.0);":                       numbers(1, 0, 1, 1),
		"gl_FragColor=vec4(1.0>=2.0,2.0>=1.0,1.0>=1.0,-1.0>=0.0);":                       numbers(0, 1, 1, 0),
		"gl_FragColor=vec4(1<2,2<1,1<1,-1<0);":                                           numbers(1, 0, 0, 1),
		"gl_FragColor=vec4(1>2,2>1,1>1,-1>0);":                                           numbers(0, 1, 0, 0),
		"gl_FragColor=vec4(1<=2,2<=1,1<=1,-1<=0);":                                       numbers(1, 0, 1, 1),
		"gl_FragColor=vec4(1>=2,2>=1,1>=1,-1>=0);":                                       numbers(0, 1, 1, 0),
		"gl_FragColor=vec4(1.0==1.0,1.0==2.0,1.0!=1.0,1.0!=2.0);":                        numbers(1, 0, 0, 1),
		"gl_FragColor=vec4(1==1,1==2,1!=1,1!=2);":                                        numbers(1, 0, 0, 1),
		"gl_FragColor=vec4(true==true,true==false,true!=true,true!=false);":              numbers(1, 0, 0, 1),
		"vec3 a=vec3(1.0,2.0,3.0);gl_FragColor=vec4(a==a,a==a.xyy,a!=a,a!=a.yyz);":       numbers(1, 0, 0, 1),
		"ivec2 a=ivec2(1,2);gl_FragColor=vec4(a==a,a==a.xx,a!=a,a!=a.yy);":               numbers(1, 0, 0, 1),
		"bvec4 a=bvec4(1,0,1,0);gl_FragColor=vec4(a==a,a==a.xyzz,a!=a,a!=a.xyzz);":       numbers(1, 0, 0, 1),
		"vec2 a=vec2(1.0,2.0);gl_FragColor=vec4(a==vec2(1.0,2.0),a==vec2(2.0,1.0),0,0);": numbers(1, 0, 0, 0),
	})
}

// P17.1: the side that is not looked at changes nothing, the one that is does.
func TestOneSide(t *testing.T) {
	const ahead = "float n=0.0;bool no(){n+=1.0;return false;}bool yes(){n+=10.0;return true;}float put(float x){n+=x;return x;}"
	rows(t, ahead, api.Env{}, map[string]api.Vec{
		"bool a=false&&yes();gl_FragColor=vec4(n,a,0,0);":                            numbers(0, 0),
		"bool a=true&&yes();gl_FragColor=vec4(n,a,0,0);":                             numbers(10, 1),
		"bool a=true&&no();gl_FragColor=vec4(n,a,0,0);":                              numbers(1, 0),
		"bool a=no()&&yes();gl_FragColor=vec4(n,a,0,0);":                             numbers(1, 0),
		"bool a=yes()&&yes();gl_FragColor=vec4(n,a,0,0);":                            numbers(20, 1),
		"bool a=true||yes();gl_FragColor=vec4(n,a,0,0);":                             numbers(0, 1),
		"bool a=false||yes();gl_FragColor=vec4(n,a,0,0);":                            numbers(10, 1),
		"bool a=false||no();gl_FragColor=vec4(n,a,0,0);":                             numbers(1, 0),
		"bool a=yes()||no();gl_FragColor=vec4(n,a,0,0);":                             numbers(10, 1),
		"bool a=no()||no();gl_FragColor=vec4(n,a,0,0);":                              numbers(2, 0),
		"bool a=no()||yes()&&no()||yes()||no();gl_FragColor=vec4(n,a,0,0);":          numbers(22, 1),
		"bool a=no()&&yes()||no();gl_FragColor=vec4(n,a,0,0);":                       numbers(2, 0),
		"float a=true?put(2.0):put(3.0);gl_FragColor=vec4(n,a,0,0);":                 numbers(2, 2),
		"float a=false?put(2.0):put(3.0);gl_FragColor=vec4(n,a,0,0);":                numbers(3, 3),
		"float a=yes()?put(2.0):put(3.0);gl_FragColor=vec4(n,a,0,0);":                numbers(12, 2),
		"float a=no()?put(2.0):yes()?put(3.0):put(4.0);gl_FragColor=vec4(n,a,0,0);":  numbers(14, 3),
		"float a=1.0;bool b=false&&(a=2.0)>1.0;gl_FragColor=vec4(a,b,0,0);":          numbers(1, 0),
		"float a=1.0;bool b=true&&(a=2.0)>1.0;gl_FragColor=vec4(a,b,0,0);":           numbers(2, 1),
		"float a=1.0;bool b=true||(a=2.0)>1.0;gl_FragColor=vec4(a,b,0,0);":           numbers(1, 1),
		"float a=1.0,b=2.0;true?(a=5.0):(b=6.0);gl_FragColor=vec4(a,b,0,0);":         numbers(5, 2),
		"float a=1.0,b=2.0;false?(a=5.0):(b=6.0);gl_FragColor=vec4(a,b,0,0);":        numbers(1, 6),
		"vec2 a=1<2?vec2(1.0,2.0):vec2(3.0,4.0);gl_FragColor=vec4(a,0.0,0.0);":       numbers(1, 2),
		"bvec2 a=bvec2(false,true);gl_FragColor=vec4(a.x?1:2,a.y?1:2,a.yx.x?1:2,0);": numbers(2, 1, 1),
		"gl_FragColor=vec4(put(1.0),put(2.0),put(3.0),n);":                           numbers(1, 2, 3, 6),
		"gl_FragColor=vec4(n,put(1.0),n,put(2.0));":                                  numbers(0, 1, 1, 2),
	})
}

// P17.1: kids are done in order: what is assigned within an expression is read later in it, not earlier.
func TestOrder(t *testing.T) {
	rows(t, "", api.Env{}, map[string]api.Vec{
		"float a=1.0;float b=a+(a=5.0)+a;gl_FragColor=vec4(a,b,0,0);":                     numbers(5, 11),
		"float a=1.0;float b=(a=5.0)+a*(a=2.0)+a;gl_FragColor=vec4(a,b,0,0);":             numbers(2, 17),
		"float a=1.0;vec3 b=vec3(a,a=2.0,a);gl_FragColor=vec4(b,a);":                      numbers(1, 2, 2, 2),
		"float a=1.0;float b=max(a,a=3.0)+min(a,a=1.0);gl_FragColor=vec4(a,b,0,0);":       numbers(1, 4),
		"float a=1.0;bool b=a<(a=3.0);gl_FragColor=vec4(a,b,a==(a=4.0),a);":               numbers(3, 1, 0, 4),
		"float a=1.0,b=(a=7.0),c=a;gl_FragColor=vec4(a,b,c,0);":                           numbers(7, 7, 7),
		"float a=1.0,b=2.0,c=3.0;a=b=c;gl_FragColor=vec4(a,b,c,0);":                       numbers(3, 3, 3),
		"float a=1.0,b=2.0,c=3.0;a+=b*=c;gl_FragColor=vec4(a,b,c,0);":                     numbers(7, 6, 3),
		"vec2 a=vec2(1.0,2.0);vec2 b=a.yx+(a=vec2(5.0,7.0))+a.yx;gl_FragColor=vec4(a,b);": numbers(5, 7, 14, 13),
		"float a=3.0;float b=-a+-(a=1.0)+-a;gl_FragColor=vec4(a,b,0,0);":                  numbers(1, -5),
		"bool a=true;float b=a?(a=false)?1.0:2.0:3.0;gl_FragColor=vec4(a,b,0,0);":         numbers(0, 2),
		"vec4 a=vec4(1.0);gl_FragColor=vec4((a.x=2.0)+a.x,(a=a+a).y,a.x,a.w);":            numbers(4, 2, 4, 2),
		"vec2 a=vec2(1.0,2.0);gl_FragColor=vec4((a=a.yx).x,(a=a.yx).x,(a.x=9.0),a.x);":    numbers(2, 1, 9, 9),
		"float a=1.0;if((a=2.0)>1.0&&a>1.5)gl_FragColor=vec4(a);":                         numbers(2, 2, 2, 2),
		"float a=2.0;gl_FragColor=mix(vec4(a),vec4(a=4.0),a=0.5)+a;":                      numbers(3.5, 3.5, 3.5, 3.5),
		"float a=2.0;gl_FragColor=vec4(clamp(a,a=3.0,a=5.0),a,0,0);":                      numbers(3, 5),
		"float a=2.0;gl_FragColor=vec4(pow(a,a=3.0),step(a,a=1.0),dot(a,a=4.0),a);":       numbers(8, 0, 4, 4),
		"vec2 a=vec2(1.0,2.0);gl_FragColor=vec4(a,a=a.yx);":                               numbers(1, 2, 2, 1),
		"vec2 a=vec2(1.0,2.0);gl_FragColor=vec4(a.x,a.x=5.0,a);":                          numbers(1, 5, 5, 2),
		"float a=1.0;bool b=a==1.0?(a=2.0)>a:a<(a=0.0);gl_FragColor=vec4(a,b,0,0);":       numbers(2, 0),
		"bool a=true;bool b=a&&(a=false)||!a;gl_FragColor=vec4(a,b,0,0);":                 numbers(0, 1),
		"int a=1;for(int i=0;i<3;i++)a=a+(a=a*2)+i;gl_FragColor=vec4(a);":                 numbers(32, 32, 32, 32),
		"gl_FragColor=vec4(1.0)+(gl_FragColor=vec4(2.0))+gl_FragColor;":                   numbers(5, 5, 5, 5),
		"gl_FragColor=gl_FragColor+(gl_FragColor=vec4(2.0))+gl_FragColor;":                numbers(4, 4, 4, 4),
	})
	rows(t, "vec2 m=vec2(1.0,2.0);float set(float x){m=vec2(x,x+1.0);return x*10.0;}float two(float a,float b){m.x+=1.0;return a*100.0+b;}", api.Env{}, map[string]api.Vec{
		"gl_FragColor=vec4(m.x+set(5.0)+m.x,m,0);":                        numbers(56, 5, 6),
		"gl_FragColor=vec4(m,set(5.0),m.y);":                              numbers(1, 2, 50, 6),
		"gl_FragColor=vec4(m*set(3.0)+m,m);":                              numbers(33, 64, 3, 4),
		"gl_FragColor=vec4(set(3.0)*m+m,m);":                              numbers(93, 124, 3, 4),
		"gl_FragColor=vec4(two(m.x,set(2.0)),m.x,0,0);":                   numbers(120, 3),
		"gl_FragColor=vec4(two(set(2.0),m.x),m.x,0,0);":                   numbers(2002, 3),
		"gl_FragColor=vec4(two(m.x,two(m.x,m.x)),m.x,0,0);":               numbers(201, 3),
		"vec2 a=m;m.x+=set(4.0);gl_FragColor=vec4(a,m);":                  numbers(1, 2, 44, 5),
		"vec2 a=m;m.yx=vec2(set(4.0),m.y);gl_FragColor=vec4(a,m);":        numbers(1, 2, 5, 40),
		"m.yx*=m+set(1.0);gl_FragColor=vec4(m,0,0);":                      numbers(12, 22),
		"m*=set(1.0);gl_FragColor=vec4(m,m==vec2(10.0,20.0),0);":          numbers(10, 20, 1),
		"float a=m.x==1.0?set(7.0):m.x;gl_FragColor=vec4(a,m.x,0,0);":     numbers(70, 7),
		"bool a=m.x<set(0.0)||m.x<set(0.5);gl_FragColor=vec4(a,m.x,0,0);": numbers(1, 0.5),
	})
}

// P17.1: assignments with an op: the expr is done first, and may change the place.
func TestAssign(t *testing.T) {
	rows(t, "float g=1.0;float set(float x){g=x;return 1.0;}", api.Env{}, map[string]api.Vec{
		"float a=7.0;a+=2.0;a-=1.0;a*=4.0;a/=5.0;gl_FragColor=vec4(a);":                         {419430, 419430, 419430, 419430},
		"int a=7;a+=2;a-=1;a*=4;a/=5;gl_FragColor=vec4(a);":                                     numbers(6, 6, 6, 6),
		"int a=-7;a/=2;int b=7;b/=0;gl_FragColor=vec4(a,b,0,0);":                                numbers(-3),
		"float a=1.0;a+=(a=2.0);gl_FragColor=vec4(a);":                                          numbers(4, 4, 4, 4),
		"float a=1.0;a-=(a=5.0)+1.0;gl_FragColor=vec4(a);":                                      numbers(-1, -1, -1, -1),
		"float a=3.0;a*=a+=1.0;gl_FragColor=vec4(a);":                                           numbers(16, 16, 16, 16),
		"float a=3.0;float b=(a/=(a=8.0)/2.0);gl_FragColor=vec4(a,b,0,0);":                      numbers(2, 2),
		"g+=set(10.0);gl_FragColor=vec4(g);":                                                    numbers(11, 11, 11, 11),
		"g=set(10.0);gl_FragColor=vec4(g);":                                                     numbers(1, 1, 1, 1),
		"vec2 a=vec2(1.0,2.0);a.x+=(a=vec2(10.0,20.0)).y;gl_FragColor=vec4(a,0,0);":             numbers(30, 20),
		"vec2 a=vec2(1.0,2.0);a.x=(a=vec2(10.0,20.0)).y;gl_FragColor=vec4(a,0,0);":              numbers(20, 20),
		"vec2 a=vec2(1.0,2.0);a=a.yx;gl_FragColor=vec4(a,0,0);":                                 numbers(2, 1),
		"vec2 a=vec2(1.0,2.0);a.xy=a.yx;gl_FragColor=vec4(a,0,0);":                              numbers(2, 1),
		"vec2 a=vec2(1.0,2.0);a.yx=a;gl_FragColor=vec4(a,0,0);":                                 numbers(2, 1),
		"vec4 a=vec4(1.0,2.0,3.0,4.0);a+=1.0;gl_FragColor=a;":                                   numbers(2, 3, 4, 5),
		"vec4 a=vec4(1.0,2.0,3.0,4.0);a-=vec4(4.0,3.0,2.0,1.0);gl_FragColor=a;":                 numbers(-3, -1, 1, 3),
		"vec4 a=vec4(1.0,2.0,3.0,4.0);a.yw*=10.0;gl_FragColor=a;":                               numbers(1, 20, 3, 40),
		"vec4 a=vec4(1.0,2.0,3.0,4.0);a.wy/=vec2(2.0,4.0);gl_FragColor=a;":                      numbers(1, 0.5, 3, 2),
		"vec4 a=vec4(1.0,2.0,3.0,4.0);vec2 b=(a.wy-=vec2(1.0,5.0));gl_FragColor=vec4(a.yw,b);":  numbers(-3, 3, 3, -3),
		"ivec2 a=ivec2(1,2);a+=3;a.y*=a.x;gl_FragColor=vec4(a,0,0);":                            numbers(4, 20),
		"bvec2 a;a.y=true;bool b=(a.x=a.y);gl_FragColor=vec4(a,b,0);":                           numbers(1, 1, 1),
		"gl_FragColor.x=1.0;gl_FragColor.zw=vec2(3.0,4.0);gl_FragColor.z+=5.0;":                 numbers(1, 0, 8, 4),
		"float a=2.0;float b=(a=3.0);a=4.0;gl_FragColor=vec4(a,b,0,0);":                         numbers(4, 3),
		"vec2 a=vec2(1.0,2.0),b=(a.yx=a)+(a+=1.0);gl_FragColor=vec4(a,b);":                      numbers(3, 2, 4, 4),
		"vec3 a=vec3(1.0,2.0,3.0);a.zx+=a.xy+=a.yz;gl_FragColor=vec4(a,0);":                     numbers(8, 5, 6),
		"ivec4 a=ivec4(9,-9,8,7);a.wx/=ivec2(2,-2);a.yz-=a.zy;a.y*=a.z*2;gl_FragColor=vec4(a);": numbers(-4, -578, 17, 3),
		"bvec3 a=bvec3(1,0,0);a.zyx=a;bvec2 b=(a.yx=a.xz);gl_FragColor=vec4(a,b.y);":            numbers(1, 0, 1, 1),
	})
}

// P17.1: = += -= *= /= to a name, to a field, and to places in another order, of floats and of ints, by a value of the same size and by a plain one.
func TestAssignEach(t *testing.T) {
	for base, kinds := range map[int][2]string{api.BaseFloat: {"float", "vec4"}, api.BaseInt: {"int", "ivec4"}} {
		unit := api.Fix(1)
		if base == api.BaseFloat {
			unit = one
		}
		whole := api.Vec{7 * unit, -9 * unit, 12 * unit, 5 * unit}
		by := api.Vec{2 * unit, 3 * unit, -4 * unit, 6 * unit}
		for op, fn := range map[string]int{"=": 0, "+=": api.FnAdd, "-=": api.FnSub, "*=": api.FnMul, "/=": api.FnDiv} {
			for field, places := range map[string][]int{"": {0, 1, 2, 3}, ".z": {2}, ".yw": {1, 3}, ".wx": {3, 0}, ".zxy": {2, 0, 1}, ".wzyx": {3, 2, 1, 0}, ".wzyx.yx": {2, 3}, ".zxy.z": {1}} {
				for _, plain := range []bool{false, true} {
					if plain && op == "=" && len(places) > 1 {
						continue
					}
					value := "b." + "xyzw"[:len(places)]
					if plain {
						value = "b.x"
					}
					want, told := whole, api.Vec{}
					for k, place := range places {
						x := by[k]
						if plain {
							x = by[0]
						}
						if fn != 0 {
							v, _ := sense.Apply(fn, base, 1, api.Vec{whole[place]}, api.Vec{x})
							x = v[0]
						}
						want[place], told[k] = x, x
					}
					kind := strings.TrimSuffix(kinds[1], "4") + fmt.Sprint(len(places))
					if len(places) == 1 {
						kind = kinds[0]
					}
					text := "uniform " + kinds[1] + " u,b,w;uniform " + kind + " k;void main(){" + kinds[1] + " a=u;" + kind + " v=(a" + field + op + value + ");gl_FragColor=vec4(a==w,v==k,a!=w,v!=k);}"
					paints(t, text, api.Env{Uniforms: []api.Vec{whole, by, want, told}}, numbers(1, 1))
				}
			}
		}
	}
}

// P17.1: fields, in whatever row, more often than once, of fields, and of what is no variable.
func TestFields(t *testing.T) {
	const ahead = "const vec4 k=vec4(1.0,2.0,3.0,4.0);vec4 f(){return k*10.0;}"
	rows(t, ahead, api.Env{}, map[string]api.Vec{
		"gl_FragColor=k.wzyx;":                                   numbers(4, 3, 2, 1),
		"gl_FragColor=k.abgr;":                                   numbers(4, 3, 2, 1),
		"gl_FragColor=k.qpts;":                                   numbers(4, 3, 2, 1),
		"gl_FragColor=k.xxww;":                                   numbers(1, 1, 4, 4),
		"gl_FragColor=vec4(k.y,k.zw,k.r);":                       numbers(2, 3, 4, 1),
		"gl_FragColor=k.wzyx.xyzw;":                              numbers(4, 3, 2, 1),
		"gl_FragColor=k.wzyx.yyxx;":                              numbers(3, 3, 4, 4),
		"gl_FragColor=vec4(k.wz.y,k.wz.x,k.yzw.zyx.x,k.wzyx.w);": numbers(3, 4, 4, 1),
		"gl_FragColor=vec4(f().y,(k+k).z,(-k).w,(true?k:k).x);":  numbers(20, 6, -4, 1),
		"gl_FragColor=f().wzyx;":                                 numbers(40, 30, 20, 10),
		"gl_FragColor=vec4(ivec3(7,8,9).zx,bvec2(0,1).yx);":      numbers(9, 7, 1, 0),
	})
}

// P17.1: fields that are written, and fields of fields.
func TestFieldsWritten(t *testing.T) {
	rows(t, "", api.Env{}, map[string]api.Vec{
		"vec4 a;a.xy.y=1.0;gl_FragColor=a;":                                      numbers(0, 1),
		"vec4 a;a.wzy.z=1.0;gl_FragColor=a;":                                     numbers(0, 1),
		"vec4 a;a.wzy.x=1.0;gl_FragColor=a;":                                     numbers(0, 0, 0, 1),
		"vec4 a;a.zw.yx=vec2(1.0,2.0);gl_FragColor=a;":                           numbers(0, 0, 2, 1),
		"vec4 a;a.wzyx=vec4(1.0,2.0,3.0,4.0);gl_FragColor=a;":                    numbers(4, 3, 2, 1),
		"vec4 a;a.wzyx.wzyx=vec4(1.0,2.0,3.0,4.0);gl_FragColor=a;":               numbers(1, 2, 3, 4),
		"vec4 a;a.yzwx.yzwx=vec4(1.0,2.0,3.0,4.0);gl_FragColor=a;":               numbers(3, 4, 1, 2),
		"vec4 a;a.yzw.zyx.xy.y=5.0;gl_FragColor=a;":                              numbers(0, 0, 5),
		"vec4 a=vec4(1.0,2.0,3.0,4.0);a.wzy.zx+=vec2(10.0,20.0);gl_FragColor=a;": numbers(1, 12, 3, 24),
		"vec4 a=vec4(1.0,2.0,3.0,4.0);a.wz.yx*=3.0;gl_FragColor=a;":              numbers(1, 2, 9, 12),
		"vec4 a;vec2 b=a.bg=vec2(1.0,2.0);gl_FragColor=vec4(a.yz,b);":            numbers(2, 1, 1, 2),
		"vec4 a;a.s=1.0;a.g=2.0;a.z=3.0;a.q=4.0;gl_FragColor=a;":                 numbers(1, 2, 3, 4),
		"ivec3 a;a.zyx.x=7;gl_FragColor=vec4(a,1.0);":                            numbers(0, 0, 7, 1),
		"gl_FragColor.zw.x=2.0;(gl_FragColor.xy).y=3.0;":                         numbers(0, 3, 2),
	})
}

// P17.1: the float beside a G, of each function that takes one, stands in all places.
func TestFloatBesideG(t *testing.T) {
	const ahead = "const vec4 k=vec4(1.0,-2.0,3.5,4.0);"
	rows(t, ahead, api.Env{}, map[string]api.Vec{
		"gl_FragColor=min(k,2.0);":                                                       numbers(1, -2, 2, 2),
		"gl_FragColor=max(k,2.0);":                                                       numbers(2, 2, 3.5, 4),
		"gl_FragColor=mod(k,3.0);":                                                       numbers(1, 1, 0.5, 1),
		"gl_FragColor=step(2.0,k);":                                                      numbers(0, 0, 1, 1),
		"gl_FragColor=step(3.5,k);":                                                      numbers(0, 0, 1, 1),
		"gl_FragColor=mix(k,k+2.0,0.5);":                                                 numbers(2, -1, 4.5, 5),
		"gl_FragColor=clamp(k,0.5,3.0);":                                                 numbers(1, 0.5, 3, 3),
		"gl_FragColor=min(k,k.yxwz);":                                                    numbers(-2, -2, 3.5, 3.5),
		"gl_FragColor=max(k,k.yxwz);":                                                    numbers(1, 1, 4, 4),
		"gl_FragColor=mod(k,vec4(2.0,3.0,1.0,3.0));":                                     numbers(1, 1, 0.5, 1),
		"gl_FragColor=step(k,k.yxwz);":                                                   numbers(0, 1, 1, 0),
		"gl_FragColor=mix(k,k+2.0,vec4(0.0,0.5,1.0,2.0));":                               numbers(1, -1, 5.5, 8),
		"gl_FragColor=clamp(k,vec4(0.0,0.0,4.0,5.0),vec4(0.5,9.0,5.0,4.5));":             numbers(0.5, 0, 4, 4.5),
		"gl_FragColor=vec4(min(k.xy,0.5),max(k.zw,3.75));":                               numbers(0.5, -2, 3.75, 4),
		"gl_FragColor=vec4(clamp(k.xyz,0.0,2.0),mod(7.0,4.0));":                          numbers(1, 0, 2, 3),
		"gl_FragColor=vec4(step(1.0,k.xy),mix(k.zw,vec2(0.0),1.0));":                     numbers(1, 0, 0, 0),
		"gl_FragColor=vec4(min(1.0,2.0),max(1.0,2.0),step(1.0,2.0),clamp(5.0,1.0,2.0));": numbers(1, 2, 1, 2),
	})
}

// P17.1: the other built-in functions, of sizes below four too.
func TestBuiltinFunctions(t *testing.T) {
	rows(t, "const vec4 k=vec4(1.0,-2.5,0.0,4.0);", api.Env{}, map[string]api.Vec{
		"gl_FragColor=abs(k);":                            numbers(1, 2.5, 0, 4),
		"gl_FragColor=sign(k);":                           numbers(1, -1, 0, 1),
		"gl_FragColor=floor(k);":                          numbers(1, -3, 0, 4),
		"gl_FragColor=fract(k);":                          numbers(0, 0.5, 0, 0),
		"gl_FragColor=sqrt(k);":                           numbers(1, 0, 0, 2),
		"gl_FragColor=inversesqrt(k);":                    {one, api.Most, api.Most, one / 2},
		"gl_FragColor=exp2(k.xxzw);":                      numbers(2, 2, 1, 16),
		"gl_FragColor=log2(k);":                           {0, api.Least, api.Least, 2 * one},
		"gl_FragColor=sin(k*0.0);":                        numbers(0, 0, 0, 0),
		"gl_FragColor=cos(k*0.0);":                        numbers(1, 1, 1, 1),
		"gl_FragColor=normalize(vec4(0.0,0.0,-2.0,0.0));": numbers(0, 0, -1, 0),
		"gl_FragColor=vec4(normalize(vec2(3.0,4.0)),normalize(-7.0),0.0);":             {39322, 52429, -one, 0},
		"gl_FragColor=pow(vec4(2.0,4.0,0.0,8.0),vec4(3.0,0.5,1.0,1.0));":               numbers(8, 2, 0, 8),
		"gl_FragColor=vec4(dot(k,k),dot(k.xy,k.wz),dot(k.x,k.w),dot(k.xyz,k.yxw));":    numbers(23.25, 4, 4, -5),
		"gl_FragColor=vec4(length(vec2(3.0,4.0)),length(-3.0),length(vec3(0.0)),0.0);": numbers(5, 3),
		"gl_FragColor=vec4(cross(vec3(1.0,2.0,3.0),vec3(4.0,5.0,6.0)),7.0);":           numbers(-3, 6, -3, 7),
		"gl_FragColor=vec4(abs(-k.y),abs(k.yx),fract(0.75));":                          numbers(2.5, 2.5, 1, 0.75),
	})
}

// P17.1: a type's word: of one plain argument, of more numbers than it takes, of mixed Bases.
func TestTypeWords(t *testing.T) {
	rows(t, "const vec4 k=vec4(1.5,-2.5,0.0,4.0);const ivec4 j=ivec4(7,-7,0,2);const bvec4 y=bvec4(1,0,1,0);", api.Env{}, map[string]api.Vec{
		"gl_FragColor=vec4(1.5);":                                       numbers(1.5, 1.5, 1.5, 1.5),
		"gl_FragColor=vec4(7);":                                         numbers(7, 7, 7, 7),
		"gl_FragColor=vec4(true);":                                      numbers(1, 1, 1, 1),
		"gl_FragColor=vec4(vec3(1.5),vec2(2.5));":                       numbers(1.5, 1.5, 1.5, 2.5),
		"gl_FragColor=vec4(vec2(1.5),0.0,vec4(9.0));":                   numbers(1.5, 1.5, 0, 9),
		"gl_FragColor=vec4(k.xy,k.zw);":                                 numbers(1.5, -2.5, 0, 4),
		"gl_FragColor=vec4(1,true,2.5,false);":                          numbers(1, 1, 2.5, 0),
		"gl_FragColor=vec4(j.x,y.xy,k.y);":                              numbers(7, 1, 0, -2.5),
		"gl_FragColor=vec4(y);":                                         numbers(1, 0, 1, 0),
		"gl_FragColor=vec4(j);":                                         numbers(7, -7, 0, 2),
		"gl_FragColor=vec4(ivec4(k));":                                  numbers(1, -2, 0, 4),
		"gl_FragColor=vec4(ivec4(y));":                                  numbers(1, 0, 1, 0),
		"gl_FragColor=vec4(bvec4(k));":                                  numbers(1, 1, 0, 1),
		"gl_FragColor=vec4(bvec4(j));":                                  numbers(1, 1, 0, 1),
		"gl_FragColor=vec4(vec3(k),1.0);":                               numbers(1.5, -2.5, 0, 1),
		"gl_FragColor=vec4(vec2(k),ivec2(k));":                          numbers(1.5, -2.5, 1, -2),
		"gl_FragColor=vec4(float(k),int(k),bool(k),float(k.yx));":       numbers(1.5, 1, 1, -2.5),
		"gl_FragColor=vec4(int(-0.75),int(-1.0),int(0.75),int(-1.75));": numbers(0, -1, 0, -1),
		"gl_FragColor=vec4(float(j.y),float(y.y),bool(0.001),bool(0));": numbers(-7, 0, 1, 0),
		"gl_FragColor=vec4(ivec3(2.75,true,k.y),bvec2(-3,0));":          numbers(2, 1, -2, 1),
		"vec2 a=vec2(k);gl_FragColor=vec4(a,a==k.xy,0);":                numbers(1.5, -2.5, 1, 0),
		"vec3 a=vec3(k.x);gl_FragColor=vec4(a,a==k.xxx);":               numbers(1.5, 1.5, 1.5, 1),
		"gl_FragColor=vec4(bvec2(0.5),bvec2(0,1));":                     numbers(1, 1, 0, 1),
	})
}

// P17.1: texture2D of images that are there and are not, by a sampler that is a uniform or a parameter.
func TestTexture(t *testing.T) {
	l := pictures()
	black := numbers(0, 0, 0, 1)
	grey := func(x api.Fix) api.Vec { return api.Vec{x, x, x, one} }
	for _, r := range []struct {
		image int
		u, v  api.Fix
		want  api.Vec
	}{
		{0, 16384, 16384, grey(0)}, {0, 49152, 16384, grey(one)}, {0, 32768, 16384, grey(32768)}, {0, 16384, 49152, grey(25700)}, {0, 49152, 49152, grey(7710)}, {0, 16384 + 3*one, 16384, grey(0)},
		{3, 0, 0, api.Vec{257, 514, 771, 1028}}, {3, one, one, api.Vec{12850, 15420, 17990, 20560}}, {3, one, 0, api.Vec{257, 514, 771, 1028}}, {3, 0, 32767, api.Vec{257, 514, 771, 1028}}, {3, 0, 32768, api.Vec{12850, 15420, 17990, 20560}},
		{1, 16384, 16384, black}, {1, 49152, 16384, black}, // not complete
		{2, 16384, 16384, black}, {2, 49152, 16384, black}, // no image
		{-1, 49152, 16384, black}, {4, 49152, 16384, black}, {5, 49152, 16384, black}, {65536, 49152, 16384, black}, {-65536, 49152, 16384, black}, {int(api.Most), 0, 0, black}, {int(api.Least), 0, 0, black},
	} {
		const text = "uniform sampler2D s;uniform vec2 u;void main(){gl_FragColor=texture2D(s,u);}"
		paints(t, text, api.Env{Uniforms: []api.Vec{{api.Fix(r.image), 7, 7, 7}, {r.u, r.v, 7, 7}}, Images: l}, r.want)
	}
	const two = "uniform sampler2D s,r;vec4 f(sampler2D s,vec2 v){return texture2D(s,v)+texture2D(r,v.yx);}vec4 g(sampler2D a,sampler2D b){return f(b,vec2(0.0,1.0))-f(a,vec2(0.0,1.0));}void main(){gl_FragColor="
	paints(t, two+"f(s,vec2(0.0,1.0));}", api.Env{Uniforms: []api.Vec{{3}, {9}}, Images: l}, api.Vec{12850, 15420, 17990, 20560 + one})
	paints(t, two+"f(s,vec2(0.0,1.0));}", api.Env{Uniforms: []api.Vec{{9}, {3}}, Images: l}, api.Vec{257, 514, 771, 1028 + one})
	paints(t, two+"g(s,r);}", api.Env{Uniforms: []api.Vec{{9}, {3}}, Images: l}, api.Vec{12850, 15420, 17990, 20560 - one})
	paints(t, two+"texture2D(s,vec2(0.0));}", api.Env{Uniforms: []api.Vec{{0}, {0}}}, black)
	comes(t, vertex, "uniform sampler2D s;void main(){gl_Position=texture2D(s,vec2(1.0));}", api.Env{Uniforms: []api.Vec{{3}}, Images: l}, api.Result{Position: api.Vec{12850, 15420, 17990, 20560}})
}
