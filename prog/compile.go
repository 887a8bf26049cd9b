package prog

import (
	"paintbox/api"
	"paintbox/check"
	"paintbox/gen"
	"paintbox/parse"
	"paintbox/pre"
)

// compiler is a text on its way to a shader: what each step has told for the next one.
type compiler struct {
	text   string
	stage  int
	tokens []api.Token
	tree   api.Tree
	shader api.Shader
}

// begin asks the stage, ahead of all that check would find first.
func (c *compiler) begin() api.Spot {
	if c.stage != api.StageVertex && c.stage != api.StageFragment {
		return api.Spot{Err: api.ErrArg}
	}
	return api.Spot{}
}

// process makes tokens of the text.
func (c *compiler) process() (spot api.Spot) {
	c.tokens, spot = pre.Run(c.text)
	return spot
}

// parse makes a tree of the tokens.
func (c *compiler) parse() (spot api.Spot) {
	c.tree, spot = parse.Parse(c.tokens)
	return spot
}

// check makes what is known of the shader out of the tree.
func (c *compiler) check() (spot api.Spot) {
	c.shader.Checked, spot = check.Check(c.tree, c.stage)
	return spot
}

// generate makes the code. That it would be too long is said of no place.
func (c *compiler) generate() (spot api.Spot) {
	c.shader.Code, spot.Err = gen.Gen(c.shader.Checked)
	return spot
}
