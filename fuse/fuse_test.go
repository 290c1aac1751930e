package fuse_test

import (
	"reflect"
	"slices"
	"testing"

	"pintle/api"
	"pintle/eval"
	"pintle/family"
	"pintle/fuse"
)

func clamp(a, lo, hi int) api.Node { return api.Node{Op: api.NClamp, A: a, Lo: lo, Hi: hi} }

func mul(a, b int) api.Node {
	return api.Node{Op: api.NMul, A: a, B: b, M1: 1 << 30, Lo: -100, Hi: 100, Zo: 3}
}

func net(out int, nodes ...api.Node) api.Graph {
	return api.Graph{Input: [3]int{1, 1, 2}, Nodes: nodes, Output: out}
}

// P27.1
func TestUses(t *testing.T) {
	for i, x := range []struct {
		g    api.Graph
		want []int
	}{
		{net(0), []int{1}}, {net(2, mul(0, 0), clamp(1, 0, 1)), []int{2, 1, 1}}, {net(1, mul(0, 0), clamp(1, 0, 1), mul(1, 2)), []int{2, 3, 1, 0}},
	} {
		if got, err := fuse.Uses(x.g); !slices.Equal(got, x.want) || err != api.OK {
			t.Error(i, got, err)
		}
	}
	for i, x := range []struct {
		g   api.Graph
		err api.Errno
	}{{api.Graph{}, api.ErrShape}, {api.Graph{Input: [3]int{65, 1, 1}}, api.ErrSize}, {net(1), api.ErrForm}, {net(0, api.Node{}), api.ErrUnsup}, {net(0, clamp(0, 1, 0)), api.ErrQuant}} {
		uses, err := fuse.Uses(x.g)
		g, many, too := fuse.Fuse(x.g)
		if uses != nil || err != x.err || !reflect.DeepEqual(g, api.Graph{}) || many != 0 || too != x.err {
			t.Error(i, err, too)
		}
	}
}

// P27.2
func TestFuse(t *testing.T) {
	with := func(n api.Node, lo, hi int) api.Node { n.Lo, n.Hi = lo, hi; return n }
	for i, x := range []struct {
		g    api.Graph
		want []api.Node
		many int
	}{
		{net(2, mul(0, 0), clamp(1, 0, 6)), []api.Node{mul(0, 0), with(mul(0, 0), 0, 6)}, 1},
		{net(2, mul(0, 0), clamp(1, -128, 127)), []api.Node{mul(0, 0), mul(0, 0)}, 1},
		{net(2, mul(0, 0), clamp(1, 110, 120)), []api.Node{mul(0, 0), with(mul(0, 0), 110, 110)}, 1},
		{net(2, mul(0, 0), clamp(1, -128, -120)), []api.Node{mul(0, 0), with(mul(0, 0), -120, -120)}, 1},
		// It is used twice; it is the output; it is the input; its node has no bounds.
		{net(3, mul(0, 0), clamp(1, 0, 6), mul(1, 2)), nil, 0}, {net(1, mul(0, 0), clamp(1, 0, 6)), nil, 0}, {net(1, clamp(0, 0, 6)), nil, 0}, {net(2, api.Node{Op: api.NArgmax}, clamp(1, 0, 6)), nil, 0}, {net(2, api.Node{Op: api.NConcat}, clamp(1, 0, 6)), nil, 0},
		// One behind the other: each is fused with what the one ahead has become.
		{net(4, mul(0, 0), clamp(1, -50, 60), clamp(2, -60, 50), clamp(3, 10, 127)), []api.Node{mul(0, 0), with(mul(0, 0), -50, 60), with(mul(0, 0), -50, 50), with(mul(0, 0), 10, 50)}, 3},
		// What was read once is read twice, once a node ahead is fused with it.
		{net(3, mul(0, 0), clamp(1, -50, 60), clamp(1, 0, 9)), nil, 0},
		{net(4, mul(0, 0), mul(1, 1), clamp(2, -50, 60), clamp(1, 0, 9)), []api.Node{mul(0, 0), mul(1, 1), with(mul(1, 1), -50, 60), clamp(1, 0, 9)}, 1},
		{net(3, clamp(0, -9, 9), clamp(1, -8, 20), clamp(2, 0, 3)), []api.Node{clamp(0, -9, 9), clamp(0, -8, 9), clamp(0, 0, 3)}, 2},
	} {
		kept := slices.Clone(x.g.Nodes)
		if x.want == nil {
			x.want = kept
		}
		got, many, err := fuse.Fuse(x.g)
		want := x.g
		want.Nodes = x.want
		if !reflect.DeepEqual(got, want) || many != x.many || err != api.OK {
			t.Error(i, got.Nodes, many, err)
		}
		if len(got.Nodes) > 0 {
			got.Nodes[0].Op = 99
		}
		if !slices.Equal(x.g.Nodes, kept) {
			t.Error("what was handed in is changed", i)
		}
	}
	for _, op := range []int{api.NConv, api.NDepth, api.NFull, api.NAdd, api.NMul, api.NClamp, api.NPad, api.NMaxPool, api.NAvgPool, api.NReshape, api.NConcat, api.NConst, api.NArgmax, api.NSoftmax} {
		g, _ := family.One(op, 3)
		g.Nodes = append(g.Nodes, clamp(g.Output, 0, 1))
		g.Output++
		_, many, err := fuse.Fuse(g)
		want := 0
		if slices.Contains([]int{api.NConv, api.NDepth, api.NFull, api.NAdd, api.NMul, api.NClamp}, op) {
			want = 1
		}
		if many != want || err != api.OK {
			t.Error(op, many, err)
		}
	}
}

// P27.3
func TestTheSame(t *testing.T) {
	fused := 0
	for seed := range uint64(400) {
		g := family.Net(seed, 10)
		for k := range 3 {
			g.Nodes = append(g.Nodes, clamp(len(g.Nodes)-k%2, -60+k, 50))
		}
		g.Output = len(g.Nodes)
		f, many, err := fuse.Fuse(g)
		if err != api.OK {
			t.Fatal(err)
		}
		fused += many
		uses, _ := fuse.Uses(f)
		x := family.Input(g, seed)
		a, _ := eval.Values(g, x)
		b, err := eval.Values(f, x)
		if err != api.OK {
			t.Fatal(err)
		}
		for v, n := range uses {
			if n > 0 && !slices.Equal(a[v], b[v]) {
				t.Fatal(seed, v)
			}
		}
	}
	if fused < 200 {
		t.Error("few are fused", fused)
	}
}
