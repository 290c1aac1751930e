package copies_test

import (
	"reflect"
	"testing"

	"pintle/api"
	"pintle/copies"
)

func sample() api.Graph {
	return api.Graph{Input: [3]int{1, 2, 3}, Consts: []api.Const{{Bytes: []int8{1, 2}}, {Words: []int32{3}}}, Nodes: []api.Node{{Op: 1}, {Op: 2}}, Output: 1}
}

// DOC.md, Memory: a copy is the same, and shares nothing.
func TestGraph(t *testing.T) {
	g := sample()
	c := copies.Graph(g)
	if !reflect.DeepEqual(c, g) {
		t.Error(c)
	}
	c.Consts[0].Bytes[0], c.Consts[1].Words[0], c.Nodes[1].Op, c.Consts[0].Words = 9, 9, 9, []int32{9}
	if !reflect.DeepEqual(g, sample()) {
		t.Error("shared", g)
	}
}
