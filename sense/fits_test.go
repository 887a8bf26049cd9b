package sense_test

import (
	"testing"

	"paintbox/api"
	"paintbox/sense"
)

// P15.2, P15.3: lists from none to one too many of each, in both stages.
func TestFits(t *testing.T) {
	for _, r := range []struct {
		stage                       int
		text                        string
		attribs, uniforms, varyings int // how many must be handed in
	}{
		{vertex, "void main(){}", 0, 0, 0},
		{vertex, "attribute vec4 p;void main(){}", 1, 0, 0},
		{vertex, "attribute vec4 p,q;attribute float r;uniform int u;varying vec2 v,w;void main(){}", 3, 1, 0},
		{vertex, "varying float v;void main(){}", 0, 0, 0},
		{vertex, "uniform sampler2D s;uniform bool b;void main(){}uniform float u;", 0, 3, 0},
		{vertex, "float a;const float b=1.0;void main(){float c;}", 0, 0, 0},
		{fragment, "void main(){}", 0, 0, 0},
		{fragment, "varying vec4 v;void main(){}", 0, 0, 1},
		{fragment, "uniform sampler2D s;uniform vec2 u;varying float v,w;varying vec3 x;void main(){}", 0, 2, 3},
		{fragment, "float a;const float b=1.0;void main(){float c;}", 0, 0, 0},
	} {
		c := shader(t, r.stage, r.text)
		for a := range 5 {
			for u := range 5 {
				for v := range 5 {
					e := api.Env{Attribs: make([]api.Vec, a), Uniforms: make([]api.Vec, u), Varyings: make([]api.Vec, v)}
					want := a == r.attribs && u == r.uniforms && v == r.varyings
					if got := sense.Fits(c, e); got != want {
						t.Errorf("stage %d, %s: %d attributes, %d uniforms, %d varyings: %v", r.stage, r.text, a, u, v, got)
					}
					x, err := sense.Run(c, e)
					if want != (err == api.OK) || !want && (err != api.ErrArg || !alike(x, api.Result{})) {
						t.Errorf("stage %d, %s: %d attributes, %d uniforms, %d varyings: %v, %d", r.stage, r.text, a, u, v, x, err)
					}
				}
			}
		}
	}
}

// P15.2: the most that there may be of each list; nothing else of the surroundings is asked.
func TestFitsMost(t *testing.T) {
	const text = "uniform float a0,a1,a2,a3,a4,a5,a6,a7,a8,a9,b0,b1,b2,b3,b4,b5,b6,b7,b8,b9,c0,c1,c2,c3,c4,c5,c6,c7,c8,c9,d0,d1;varying vec4 v0,v1,v2,v3;"
	c := shader(t, vertex, text+"attribute float p0,p1,p2,p3,p4,p5,p6,p7;void main(){gl_PointSize=d1+p7;v3.w=c9+p0;}")
	e := api.Env{Attribs: make([]api.Vec, 8), Uniforms: make([]api.Vec, 32), Front: true, Images: make([]api.Image, 3), Coord: numbers(1, 2), Point: numbers(3, 4)}
	e.Attribs[7], e.Uniforms[31], e.Attribs[0], e.Uniforms[29] = numbers(1), numbers(2), numbers(3), numbers(4)
	x, err := sense.Run(c, e)
	if want := (api.Result{Size: 3 * one, Varyings: []api.Vec{{}, {}, {}, numbers(0, 0, 0, 7)}}); !sense.Fits(c, e) || err != api.OK || !alike(x, want) {
		t.Error(x, err)
	}
	c = shader(t, fragment, text+"void main(){gl_FragColor=v3+vec4(d1);}")
	e = api.Env{Uniforms: make([]api.Vec, 32), Varyings: make([]api.Vec, 4)}
	e.Uniforms[31], e.Varyings[3] = numbers(5), numbers(1, 2, 3, 4)
	if x, err := sense.Run(c, e); !sense.Fits(c, e) || err != api.OK || x.Color != numbers(6, 7, 8, 9) {
		t.Error(x, err)
	}
}
