package infer_test

import (
	"slices"
	"testing"

	"pintle/api"
	"pintle/infer"
	"pintle/tensor"
)

func bytes(n int) api.Const { return api.Const{Bytes: make([]int8, n)} }
func words(n int) api.Const { return api.Const{Words: make([]int32, n)} }

func table() api.Const {
	c := words(256)
	c.Words[0], c.Words[255] = 1, 65535
	return c
}

// net has a node of an operator that has all that it may have, reading the input of 4 by 6 by 3; and the shape that comes out.
func net(op int) (api.Graph, [3]int) {
	g := api.Graph{Input: [3]int{4, 6, 3}, Output: 1}
	n := api.Node{Op: op}
	k, s, pad := [2]int{3, 2}, [2]int{1, 2}, [4]int{1, 0, 2, 1}
	quant := func(b bool) {
		n.Za, n.Zo, n.M1, n.S1, n.Lo, n.Hi = -128, 127, 1<<31-1, 31, -128, 127
		if b {
			n.Zb, n.M2, n.S2 = -5, 0, 0
		}
	}
	out := g.Input
	switch op {
	case api.NConst:
		n.Shape, out = [3]int{2, 1, 5}, [3]int{2, 1, 5}
		g.Consts = []api.Const{bytes(10)}
	case api.NConv:
		n.K, n.S, n.Pad, n.Chans, n.Bias, out = k, s, pad, 7, 1, [3]int{5, 3, 7}
		quant(false)
		g.Consts = []api.Const{bytes(7 * 6 * 3), words(7)}
	case api.NDepth:
		n.K, n.S, n.Pad, n.W, out = k, s, pad, 1, [3]int{5, 3, 3}
		quant(false)
		g.Consts = []api.Const{words(3), bytes(6 * 3)}
	case api.NFull:
		n.Chans, n.Bias, out = 2, 1, [3]int{1, 1, 2}
		quant(false)
		g.Consts = []api.Const{bytes(2 * 72), words(2)}
	case api.NMaxPool, api.NAvgPool:
		n.K, n.S, n.Pad, out = k, s, pad, [3]int{5, 3, 3}
	case api.NAdd:
		quant(true)
	case api.NMul:
		quant(true)
		n.M2, n.S2 = 0, 0
	case api.NClamp:
		n.Lo, n.Hi = -1, 5
	case api.NPad:
		n.Pad, n.Zo, out = [4]int{0, 7, 1, 2}, -128, [3]int{5, 15, 3}
	case api.NReshape:
		n.Shape, out = [3]int{1, 9, 8}, [3]int{1, 9, 8}
	case api.NConcat:
		out = [3]int{4, 6, 6}
	case api.NArgmax:
		out = [3]int{4, 6, 1}
	case api.NSoftmax:
		g.Consts = []api.Const{table()}
	}
	g.Nodes = []api.Node{n}
	return g, out
}

// P24.1
func TestFitsAndInputs(t *testing.T) {
	for _, x := range []struct {
		s   [3]int
		err api.Errno
	}{{[3]int{1, 1, 1}, api.OK}, {[3]int{64, 64, 4}, api.OK}, {[3]int{0, 99, 1}, api.ErrShape}, {[3]int{99, 1, -1}, api.ErrShape}, {[3]int{1, 0, 1}, api.ErrShape}, {[3]int{65, 1, 1}, api.ErrSize}, {[3]int{64, 64, 5}, api.ErrSize}, {[3]int{1, 1, 1 << 62}, api.ErrSize}, {[3]int{-1 << 63, 1, 1}, api.ErrShape}} {
		if err := infer.Fits(x.s); err != x.err {
			t.Error(x, err)
		}
	}
	for op := -2; op < 20; op++ {
		want := []int{5}
		switch op {
		case api.NConst:
			want = nil
		case api.NAdd, api.NMul, api.NConcat:
			want = []int{5, -7}
		}
		if got := infer.Inputs(api.Node{Op: op, A: 5, B: -7}); !slices.Equal(got, want) {
			t.Error(op, got)
		}
	}
}

// P24.2, P24.3, P24.4: what is sound.
func TestShapes(t *testing.T) {
	for op := api.NConst; op <= api.NOps; op++ {
		g, out := net(op)
		shapes, err := infer.Shapes(g)
		if !slices.Equal(shapes, [][3]int{g.Input, out}) || err != api.OK {
			t.Error(op, shapes, err)
		}
		for _, s := range shapes {
			if !tensor.Good(s) {
				t.Error(op, s)
			}
		}
		g.Output = 0
		if _, err := infer.Shapes(g); err != api.OK {
			t.Error(op, err)
		}
		for _, v := range []int{-1, 2, 1 << 40} {
			g.Output = v
			if shapes, err := infer.Shapes(g); shapes != nil || err != api.ErrForm {
				t.Error(op, v, err)
			}
		}
	}
	if shapes, err := infer.Shapes(api.Graph{Input: [3]int{1, 2, 3}}); !slices.Equal(shapes, [][3]int{{1, 2, 3}}) || err != api.OK {
		t.Error(shapes, err)
	}
	for _, op := range []int{api.NConv, api.NFull} {
		for _, chans := range []int{1, 64} {
			g, out := net(op)
			n := &g.Nodes[0]
			g.Consts[n.W].Bytes = make([]int8, len(g.Consts[n.W].Bytes)/n.Chans*chans)
			g.Consts[n.Bias].Words = make([]int32, chans)
			n.Chans, out[2] = chans, chans
			if shapes, err := infer.Shapes(g); err != api.OK || shapes[1] != out {
				t.Error(op, chans, err)
			}
		}
	}
	full := api.Graph{Input: [3]int{64, 64, 1}, Output: 1, Consts: []api.Const{bytes(4096), words(1)}, Nodes: []api.Node{{Op: api.NFull, Chans: 1, Bias: 1}}}
	if _, err := infer.Shapes(full); err != api.OK {
		t.Error(err)
	}
	many := api.Graph{Input: [3]int{1, 2, 3}, Output: 300}
	for i := range 300 {
		many.Nodes = append(many.Nodes, api.Node{Op: api.NClamp, A: i})
	}
	if shapes, err := infer.Shapes(many); len(shapes) != 301 || err != api.OK {
		t.Error(err)
	}
}

type wrong struct {
	ops    []int
	change func(g *api.Graph, n *api.Node)
	err    api.Errno
}

func only(op ...int) []int { return op }

func all(but ...int) []int {
	var l []int
	for op := api.NConst; op <= api.NOps; op++ {
		if !slices.Contains(but, op) {
			l = append(l, op)
		}
	}
	return l
}

var (
	windows = only(api.NConv, api.NDepth, api.NMaxPool, api.NAvgPool)
	biased  = only(api.NConv, api.NDepth, api.NFull)
	scaled  = only(api.NConv, api.NDepth, api.NFull, api.NAdd, api.NMul)
	two     = only(api.NAdd, api.NMul, api.NConcat)
	bounded = append(slices.Clone(scaled), api.NClamp)
	padded  = append(slices.Clone(windows), api.NPad)
	weights = only(api.NConst, api.NConv, api.NDepth, api.NFull, api.NSoftmax)
)

func without(ops []int) []int { return all(ops...) }

// P24.3: what is wrong, of each operator, by what it has and does not have.
func TestWrong(t *testing.T) {
	for i, x := range []wrong{
		{all(), func(g *api.Graph, n *api.Node) { n.Op = 0 }, api.ErrUnsup}, {all(), func(g *api.Graph, n *api.Node) { n.Op = 15 }, api.ErrUnsup}, {all(), func(g *api.Graph, n *api.Node) { n.Op = -1; n.A = 9 }, api.ErrUnsup},
		{all(), func(g *api.Graph, n *api.Node) { g.Input[0] = 0 }, api.ErrShape}, {all(), func(g *api.Graph, n *api.Node) { g.Input[2] = 65; n.Op = 0 }, api.ErrSize},
		{all(api.NConst), func(g *api.Graph, n *api.Node) { n.A = 1; n.S1 = 99 }, api.ErrForm}, {all(api.NConst), func(g *api.Graph, n *api.Node) { n.A = -1 }, api.ErrForm}, {only(api.NConst), func(g *api.Graph, n *api.Node) { n.A = 1 }, api.ErrForm},
		{two, func(g *api.Graph, n *api.Node) { n.B = 1 }, api.ErrForm}, {two, func(g *api.Graph, n *api.Node) { n.B = -1 << 40 }, api.ErrForm}, {without(two), func(g *api.Graph, n *api.Node) { n.B = 1 }, api.ErrForm},
		{without(windows), func(g *api.Graph, n *api.Node) { n.K[0] = 1 }, api.ErrForm}, {without(windows), func(g *api.Graph, n *api.Node) { n.S[1] = 1 }, api.ErrForm}, {without(padded), func(g *api.Graph, n *api.Node) { n.Pad[3] = 1 }, api.ErrForm},
		{without(scaled), func(g *api.Graph, n *api.Node) { n.Za = 1 }, api.ErrForm}, {without(only(api.NAdd, api.NMul)), func(g *api.Graph, n *api.Node) { n.Zb = 1 }, api.ErrForm}, {without(append(slices.Clone(scaled), api.NPad)), func(g *api.Graph, n *api.Node) { n.Zo = 1 }, api.ErrForm},
		{without(scaled), func(g *api.Graph, n *api.Node) { n.M1 = 1 }, api.ErrForm}, {without(scaled), func(g *api.Graph, n *api.Node) { n.S1 = 1 }, api.ErrForm}, {all(api.NAdd), func(g *api.Graph, n *api.Node) { n.M2 = 1 }, api.ErrForm}, {all(api.NAdd), func(g *api.Graph, n *api.Node) { n.S2 = 1 }, api.ErrForm},
		{without(bounded), func(g *api.Graph, n *api.Node) { n.Lo = -1 }, api.ErrForm}, {without(bounded), func(g *api.Graph, n *api.Node) { n.Hi = 1 }, api.ErrForm}, {without(weights), func(g *api.Graph, n *api.Node) { n.W = 1 }, api.ErrForm}, {without(biased), func(g *api.Graph, n *api.Node) { n.Bias = 1 }, api.ErrForm},
		{all(api.NConv, api.NFull), func(g *api.Graph, n *api.Node) { n.Chans = 1 }, api.ErrForm}, {all(api.NConst, api.NReshape), func(g *api.Graph, n *api.Node) { n.Shape[0] = 1 }, api.ErrForm},
		{windows, func(g *api.Graph, n *api.Node) { n.K[0] = 0; n.Chans = max(n.Chans, 0) * 99 }, api.ErrShape}, {windows, func(g *api.Graph, n *api.Node) { n.S[1] = 9 }, api.ErrShape}, {windows, func(g *api.Graph, n *api.Node) { n.Pad[0] = 3 }, api.ErrShape}, {windows, func(g *api.Graph, n *api.Node) { n.Pad[1] = -1 }, api.ErrShape}, {windows, func(g *api.Graph, n *api.Node) { n.K = [2]int{8, 2} }, api.ErrShape},
		{only(api.NConv, api.NFull), func(g *api.Graph, n *api.Node) { n.Chans = 0; n.W = 9 }, api.ErrShape}, {only(api.NConv, api.NFull), func(g *api.Graph, n *api.Node) { n.Chans = 65 }, api.ErrShape}, {only(api.NConv, api.NFull), func(g *api.Graph, n *api.Node) { n.Chans = 1 << 62 }, api.ErrShape},
		{only(api.NConst, api.NReshape), func(g *api.Graph, n *api.Node) { n.Shape[1] = 0; n.W = n.Shape[1] }, api.ErrShape}, {only(api.NConst, api.NReshape), func(g *api.Graph, n *api.Node) { n.Shape = [3]int{65, 1, 1} }, api.ErrSize}, {only(api.NReshape), func(g *api.Graph, n *api.Node) { n.Shape = [3]int{1, 1, 1} }, api.ErrShape},
		{only(api.NPad), func(g *api.Graph, n *api.Node) { n.Pad[2] = 8; n.Zo = 500 }, api.ErrShape}, {only(api.NPad), func(g *api.Graph, n *api.Node) { n.Pad[2] = -1 }, api.ErrShape}, {only(api.NPad), func(g *api.Graph, n *api.Node) { g.Input = [3]int{58, 1, 1}; n.Pad = [4]int{7, 0, 0, 0}; n.Zo = 500 }, api.ErrSize},
		{only(api.NConv), func(g *api.Graph, n *api.Node) { g.Input = [3]int{64, 64, 1}; n.S = [2]int{1, 1}; n.W = 77 }, api.ErrSize}, {only(api.NConcat), func(g *api.Graph, n *api.Node) { g.Input = [3]int{1, 1, 33} }, api.ErrSize},
		{only(api.NFull), func(g *api.Graph, n *api.Node) { g.Input = [3]int{64, 64, 2}; n.W = 77 }, api.ErrSize}, {only(api.NFull), func(g *api.Graph, n *api.Node) { g.Input = [3]int{64, 64, 1} }, api.ErrShape},
		{weights, func(g *api.Graph, n *api.Node) { n.W = len(g.Consts); n.Bias = n.Bias * 9 }, api.ErrForm}, {weights, func(g *api.Graph, n *api.Node) { n.W = -1 }, api.ErrForm}, {weights, func(g *api.Graph, n *api.Node) { g.Consts[n.W] = api.Const{}; n.Bias = n.Bias * 9 }, api.ErrShape},
		{weights, func(g *api.Graph, n *api.Node) { g.Consts[n.W].Bytes = append(g.Consts[n.W].Bytes, 1); n.Zo = n.Zo * 9 }, api.ErrShape}, {weights, func(g *api.Graph, n *api.Node) { g.Consts[n.W].Words = append(g.Consts[n.W].Words, 1) }, api.ErrShape},
		{biased, func(g *api.Graph, n *api.Node) { n.Bias = 2 }, api.ErrForm}, {biased, func(g *api.Graph, n *api.Node) { n.Bias = -1 }, api.ErrForm}, {biased, func(g *api.Graph, n *api.Node) {
			g.Consts[n.Bias].Words = append(g.Consts[n.Bias].Words, 1)
			n.Lo = -999
		}, api.ErrShape}, {biased, func(g *api.Graph, n *api.Node) { g.Consts[n.Bias].Bytes = []int8{1} }, api.ErrShape},
		{scaled, func(g *api.Graph, n *api.Node) { n.Za = 128 }, api.ErrQuant}, {scaled, func(g *api.Graph, n *api.Node) { n.Za = -129 }, api.ErrQuant}, {only(api.NAdd, api.NMul), func(g *api.Graph, n *api.Node) { n.Zb = 128 }, api.ErrQuant}, {append(slices.Clone(scaled), api.NPad), func(g *api.Graph, n *api.Node) { n.Zo = -129 }, api.ErrQuant}, {append(slices.Clone(scaled), api.NPad), func(g *api.Graph, n *api.Node) { n.Zo = 1 << 40 }, api.ErrQuant},
		{scaled, func(g *api.Graph, n *api.Node) { n.M1 = -1 }, api.ErrQuant}, {only(api.NAdd), func(g *api.Graph, n *api.Node) { n.M2 = -1 << 31 }, api.ErrQuant}, {scaled, func(g *api.Graph, n *api.Node) { n.S1 = 32 }, api.ErrQuant}, {scaled, func(g *api.Graph, n *api.Node) { n.S1 = -1 }, api.ErrQuant}, {only(api.NAdd), func(g *api.Graph, n *api.Node) { n.S2 = 32 }, api.ErrQuant},
		{bounded, func(g *api.Graph, n *api.Node) { n.Lo = -129 }, api.ErrQuant}, {bounded, func(g *api.Graph, n *api.Node) { n.Hi = 128 }, api.ErrQuant}, {bounded, func(g *api.Graph, n *api.Node) { n.Lo, n.Hi = 6, 5 }, api.ErrQuant}, {bounded, func(g *api.Graph, n *api.Node) { n.Lo, n.Hi = 6, 6 }, api.OK},
		{biased, func(g *api.Graph, n *api.Node) { g.Consts[n.Bias].Words[1] = 1<<28 + 1 }, api.ErrQuant}, {biased, func(g *api.Graph, n *api.Node) { g.Consts[n.Bias].Words[1] = -1<<28 - 1 }, api.ErrQuant}, {biased, func(g *api.Graph, n *api.Node) { g.Consts[n.Bias].Words[0], g.Consts[n.Bias].Words[1] = 1<<28, -1<<28 }, api.OK},
		{only(api.NSoftmax), func(g *api.Graph, n *api.Node) { g.Consts[0].Words[9] = 65536 }, api.ErrQuant}, {only(api.NSoftmax), func(g *api.Graph, n *api.Node) { g.Consts[0].Words[9] = -1 }, api.ErrQuant}, {only(api.NSoftmax), func(g *api.Graph, n *api.Node) { g.Consts[0].Words[0] = 0 }, api.ErrQuant},
		{all(), func(g *api.Graph, n *api.Node) { g.Nodes = append(g.Nodes, api.Node{}); g.Output = 99 }, api.ErrUnsup},
	} {
		for _, op := range x.ops {
			g, _ := net(op)
			x.change(&g, &g.Nodes[0])
			shapes, err := infer.Shapes(g)
			if err != x.err || err != api.OK && shapes != nil {
				t.Error(i, "operator", op, err, x.err)
			}
		}
	}
}

// P24.3: two inputs of unlike shapes.
func TestUnlike(t *testing.T) {
	for _, x := range []struct {
		op   int
		s    [3]int
		want [3]int
		err  api.Errno
	}{
		{api.NAdd, [3]int{4, 6, 3}, [3]int{4, 6, 3}, api.OK}, {api.NAdd, [3]int{6, 4, 3}, [3]int{}, api.ErrShape}, {api.NMul, [3]int{4, 6, 1}, [3]int{}, api.ErrShape}, {api.NMul, [3]int{4, 6, 3}, [3]int{4, 6, 3}, api.OK},
		{api.NConcat, [3]int{4, 6, 1}, [3]int{4, 6, 4}, api.OK}, {api.NConcat, [3]int{4, 5, 3}, [3]int{}, api.ErrShape}, {api.NConcat, [3]int{5, 6, 3}, [3]int{}, api.ErrShape}, {api.NConcat, [3]int{4, 6, 62}, [3]int{}, api.ErrSize},
	} {
		g := api.Graph{Input: [3]int{4, 6, 3}, Output: 2, Consts: []api.Const{bytes(x.s[0] * x.s[1] * x.s[2])}, Nodes: []api.Node{{Op: api.NConst, Shape: x.s}, {Op: x.op, B: 1}}}
		shapes, err := infer.Shapes(g)
		if err != x.err || err == api.OK && shapes[2] != x.want {
			t.Error(x, shapes, err)
		}
		g.Nodes[1].A, g.Nodes[1].B = 1, 0
		shapes, err = infer.Shapes(g)
		if err != x.err || err == api.OK && shapes[2] != x.want {
			t.Error(x, shapes, err)
		}
	}
}
