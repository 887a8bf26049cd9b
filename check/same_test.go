package check_test

import (
	"slices"
	"testing"

	"paintbox/api"
	"paintbox/check"
)

// same asks what Same tells of two, either way round.
func same(t *testing.T, a, b api.Checked, want bool, why string) {
	t.Helper()
	if check.Same(a, b) != want || check.Same(b, a) != want {
		t.Errorf("%s: not %v", why, want)
	}
}

// full is a Checked, not one that Check tells, with something in each field.
func full() api.Checked {
	return api.Checked{
		Tree:  api.Tree{Nodes: []api.Node{{Kind: 1, Type: "a", Text: "b", Num: 2, Kids: []int{3, 4}, At: 5}, {Kind: 6, Kids: []int{0}}}},
		Stage: 1, Types: []api.Type{{Base: 1, Size: 2}, {Base: 3, Size: 4}}, Uses: []int{1, 2}, Fns: []int{3, 4}, Attribs: []int{5, 6}, Uniforms: []int{7, 8}, Varyings: []int{9, 10}, Main: 11,
	}
}

// P14.3: Same of two that are the same, told or not.
func TestSame(t *testing.T) {
	same(t, full(), full(), true, "twice the same")
	same(t, api.Checked{}, api.Checked{}, true, "nothing")
	same(t, api.Checked{}, full(), false, "nothing and something")
	empty := api.Checked{Tree: api.Tree{Nodes: []api.Node{}}, Types: []api.Type{}, Uses: []int{}, Fns: []int{}, Attribs: []int{}, Uniforms: []int{}, Varyings: []int{}}
	same(t, api.Checked{}, empty, true, "nil and empty")
	c, d := full(), full()
	c.Tree.Nodes[0].Kids, d.Tree.Nodes[0].Kids = nil, []int{}
	same(t, c, d, true, "nil and empty kids")
	for _, stage := range both() {
		text := "varying vec2 v;void main(){vec2 a=v;}"
		same(t, passes(t, stage, text), passes(t, stage, text), true, text)
		same(t, passes(t, stage, text), passes(t, stage, "varying vec2 v; void main(){vec2 a=v;}"), false, "a blank more")
		same(t, passes(t, stage, text), passes(t, stage, "varying vec2 v;void main(){vec2 b=v;}"), false, "another name")
		same(t, passes(t, stage, text), passes(t, stage, text+"/**/"), true, "a comment behind it")
	}
	same(t, passes(t, vertex, "void main(){}"), passes(t, fragment, "void main(){}"), false, "stages")
}

// P14.3: Same of two that differ in one field alone, a node's place among them, or in a length alone.
func TestSameDiffers(t *testing.T) {
	for why, change := range map[string]func(*api.Checked){
		"Kind":             func(c *api.Checked) { c.Tree.Nodes[0].Kind++ },
		"Type":             func(c *api.Checked) { c.Tree.Nodes[0].Type = "" },
		"Text":             func(c *api.Checked) { c.Tree.Nodes[0].Text = "c" },
		"Num":              func(c *api.Checked) { c.Tree.Nodes[0].Num++ },
		"Kids":             func(c *api.Checked) { c.Tree.Nodes[0].Kids[1]++ },
		"Kids' length":     func(c *api.Checked) { c.Tree.Nodes[1].Kids = nil },
		"a place":          func(c *api.Checked) { c.Tree.Nodes[0].At++ },
		"the last place":   func(c *api.Checked) { c.Tree.Nodes[1].At = -1 },
		"Nodes' length":    func(c *api.Checked) { c.Tree.Nodes = c.Tree.Nodes[:1] },
		"no Nodes":         func(c *api.Checked) { c.Tree.Nodes = nil },
		"Stage":            func(c *api.Checked) { c.Stage = 2 },
		"Types' Base":      func(c *api.Checked) { c.Types[1].Base++ },
		"Types' Size":      func(c *api.Checked) { c.Types[0].Size++ },
		"Types' length":    func(c *api.Checked) { c.Types = c.Types[:1] },
		"Types more":       func(c *api.Checked) { c.Types = append(c.Types, api.Type{}) },
		"Uses":             func(c *api.Checked) { c.Uses[1]++ },
		"Uses' length":     func(c *api.Checked) { c.Uses = c.Uses[:1] },
		"Uses more":        func(c *api.Checked) { c.Uses = append(c.Uses, 0) },
		"Fns":              func(c *api.Checked) { c.Fns[0]++ },
		"Fns' length":      func(c *api.Checked) { c.Fns = c.Fns[:1] },
		"Fns more":         func(c *api.Checked) { c.Fns = append(c.Fns, 0) },
		"Attribs":          func(c *api.Checked) { c.Attribs[1]++ },
		"Attribs' length":  func(c *api.Checked) { c.Attribs = c.Attribs[:1] },
		"Attribs' order":   func(c *api.Checked) { slices.Reverse(c.Attribs) },
		"Uniforms":         func(c *api.Checked) { c.Uniforms[0]++ },
		"Uniforms' length": func(c *api.Checked) { c.Uniforms = nil },
		"Varyings":         func(c *api.Checked) { c.Varyings[1]-- },
		"Varyings' length": func(c *api.Checked) { c.Varyings = append(c.Varyings, 0) },
		"Main":             func(c *api.Checked) { c.Main = 0 },
		"Fns and Uses":     func(c *api.Checked) { c.Fns, c.Uses = c.Uses, c.Fns },
		"lists about":      func(c *api.Checked) { c.Attribs, c.Uniforms = c.Uniforms, c.Attribs },
	} {
		c := full()
		change(&c)
		same(t, full(), c, false, why)
		same(t, c, c, true, why)
	}
}
