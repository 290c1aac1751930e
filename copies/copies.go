// Package copies makes copies that share nothing with what they are of.
package copies

import (
	"slices"

	"pintle/api"
)

// Graph tells a network that is the same, in new memory.
func Graph(g api.Graph) api.Graph {
	c := api.Graph{Input: g.Input, Nodes: slices.Clone(g.Nodes), Output: g.Output}
	for _, x := range g.Consts {
		c.Consts = append(c.Consts, api.Const{Bytes: slices.Clone(x.Bytes), Words: slices.Clone(x.Words)})
	}
	return c
}
