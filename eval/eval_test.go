package eval_test

import (
	"math/big"
	"slices"
	"testing"

	"pintle/api"
	"pintle/eval"
	"pintle/family"
	"pintle/infer"
	"pintle/tensor"
)

// scale tells quant.Scale by numbers without bounds.
func scale(n int, mult int32, shift int) int {
	down := func(x *big.Int, by uint) *big.Int {
		return new(big.Int).Div(x, new(big.Int).Lsh(big.NewInt(1), by))
	}
	p := new(big.Int).Mul(big.NewInt(int64(n)), big.NewInt(int64(mult)))
	m := down(p.Add(p, big.NewInt(1<<30)), 31)
	if shift > 0 {
		m = down(m.Add(m, new(big.Int).Lsh(big.NewInt(1), uint(shift-1))), uint(shift))
	}
	return int(m.Int64())
}

func clamp(n, lo, hi int) int { return min(max(n, lo), hi) }

// number tells an element, or, if there is none, false.
func number(s [3]int, l []int8, y, x, c int) (int, bool) {
	if y < 0 || y >= s[0] || x < 0 || x >= s[1] {
		return 0, false
	}
	return int(l[(y*s[1]+x)*s[2]+c]), true
}

// element tells an element of what a node makes, as the chapter's words say it.
func element(g api.Graph, n api.Node, sa, sb [3]int, a, b []int8, y, x, c, at int) int {
	byteOf := func(sum int) int { return clamp(scale(sum, n.M1, n.S1)+n.Zo, n.Lo, n.Hi) }
	taps := func(c int, each func(n, i, j int)) {
		for i := range n.K[0] {
			for j := range n.K[1] {
				if v, ok := number(sa, a, y*n.S[0]-n.Pad[0]+i, x*n.S[1]-n.Pad[1]+j, c); ok {
					each(v, i, j)
				}
			}
		}
	}
	switch n.Op {
	case api.NConst:
		return int(g.Consts[n.W].Bytes[at])
	case api.NConv:
		sum := int(g.Consts[n.Bias].Words[c])
		for d := range sa[2] {
			taps(d, func(v, i, j int) { sum += (v - n.Za) * int(g.Consts[n.W].Bytes[((c*n.K[0]+i)*n.K[1]+j)*sa[2]+d]) })
		}
		return byteOf(sum)
	case api.NDepth:
		sum := int(g.Consts[n.Bias].Words[c])
		taps(c, func(v, i, j int) { sum += (v - n.Za) * int(g.Consts[n.W].Bytes[(i*n.K[1]+j)*sa[2]+c]) })
		return byteOf(sum)
	case api.NFull:
		sum := int(g.Consts[n.Bias].Words[c])
		for e, v := range a {
			sum += (int(v) - n.Za) * int(g.Consts[n.W].Bytes[c*len(a)+e])
		}
		return byteOf(sum)
	case api.NMaxPool, api.NAvgPool:
		most, sum, many := -1000, 0, 0
		taps(c, func(v, i, j int) { most, sum, many = max(most, v), sum+v, many+1 })
		if n.Op == api.NMaxPool {
			return most
		}
		return int(new(big.Int).Div(big.NewInt(int64(2*sum+many)), big.NewInt(int64(2*many))).Int64())
	case api.NAdd:
		return clamp(scale((int(a[at])-n.Za)*65536, n.M1, n.S1)+scale((int(b[at])-n.Zb)*65536, n.M2, n.S2)+n.Zo, n.Lo, n.Hi)
	case api.NMul:
		return byteOf((int(a[at]) - n.Za) * (int(b[at]) - n.Zb))
	case api.NClamp:
		return clamp(int(a[at]), n.Lo, n.Hi)
	case api.NPad:
		if v, ok := number(sa, a, y-n.Pad[0], x-n.Pad[1], c); ok {
			return v
		}
		return n.Zo
	case api.NConcat:
		if c < sa[2] {
			v, _ := number(sa, a, y, x, c)
			return v
		}
		v, _ := number(sb, b, y, x, c-sa[2])
		return v
	case api.NReshape:
		return int(a[at])
	}
	row := []int{}
	for d := range sa[2] {
		v, _ := number(sa, a, y, x, d)
		row = append(row, v)
	}
	most := slices.Max(row)
	if n.Op == api.NArgmax {
		return slices.Index(row, most)
	}
	sum := 0
	for _, v := range row {
		sum += int(g.Consts[n.W].Words[most-v])
	}
	return min(127, (256*int(g.Consts[n.W].Words[most-row[c]])+sum/2)/sum-128)
}

// look holds all values of a network against the chapter's words.
func look(t *testing.T, g api.Graph, x []int8) {
	t.Helper()
	shapes, err := infer.Shapes(g)
	if err != api.OK {
		t.Fatal(err)
	}
	values, err := eval.Values(g, x)
	if err != api.OK || len(values) != len(shapes) || !slices.Equal(values[0], x) {
		t.Fatal(err, len(values))
	}
	for v, n := range g.Nodes {
		if len(values[v+1]) != tensor.Size(shapes[v+1]) {
			t.Fatal("how many", n.Op)
		}
		for at, got := range values[v+1] {
			p, _ := tensor.Of(shapes[v+1], at)
			want := element(g, n, shapes[n.A], shapes[n.B], values[n.A], values[n.B], p[0], p[1], p[2], at)
			if int(got) != want {
				t.Fatal("operator", n.Op, p, got, want)
			}
			// P25.3
			switch n.Op {
			case api.NClamp, api.NConv, api.NDepth, api.NFull, api.NAdd, api.NMul:
				if int(got) < n.Lo || int(got) > n.Hi {
					t.Fatal("bounds", n.Op, got)
				}
			}
		}
	}
	out, err := eval.Run(g, x)
	if !slices.Equal(out, values[g.Output]) || err != api.OK {
		t.Fatal("output", err)
	}
}

// P25.1, P25.2, P25.3
func TestValues(t *testing.T) {
	for seed := range uint64(60) {
		for op := api.NConst; op <= api.NOps; op++ {
			g, _ := family.One(op, seed)
			look(t, g, family.Input(g, seed+1))
		}
		g := family.Net(seed, 12)
		look(t, g, family.Input(g, seed))
	}
}

func run(t *testing.T, g api.Graph, x ...int8) []int8 {
	t.Helper()
	out, err := eval.Run(g, x)
	if err != api.OK {
		t.Fatal(err)
	}
	return out
}

// P25.2: edges, by hand.
func TestByHand(t *testing.T) {
	one := func(in [3]int, n api.Node, consts ...api.Const) api.Graph {
		return api.Graph{Input: in, Consts: consts, Nodes: []api.Node{n}, Output: 1}
	}
	table := make([]int32, 256)
	table[0] = 65535
	for i, x := range []struct {
		g    api.Graph
		x    []int8
		want []int8
	}{
		{one([3]int{1, 1, 1}, api.Node{Op: api.NClamp, Hi: 3}), []int8{5}, []int8{3}},
		{one([3]int{1, 1, 3}, api.Node{Op: api.NArgmax}), []int8{5, 7, 7}, []int8{1}},
		{one([3]int{1, 1, 2}, api.Node{Op: api.NSoftmax}, api.Const{Words: table}), []int8{-128, 127}, []int8{-128, 127}},
		{one([3]int{1, 1, 2}, api.Node{Op: api.NSoftmax}, api.Const{Words: table}), []int8{9, 9}, []int8{0, 0}},
		{one([3]int{1, 2, 1}, api.Node{Op: api.NAvgPool, K: [2]int{1, 2}, S: [2]int{1, 1}}), []int8{-1, -2}, []int8{-1}},
		{one([3]int{1, 2, 1}, api.Node{Op: api.NAvgPool, K: [2]int{1, 2}, S: [2]int{1, 1}}), []int8{1, 2}, []int8{2}},
		{one([3]int{1, 2, 1}, api.Node{Op: api.NAvgPool, K: [2]int{1, 2}, S: [2]int{1, 1}}), []int8{-128, -128}, []int8{-128}},
		{one([3]int{1, 3, 1}, api.Node{Op: api.NAvgPool, K: [2]int{1, 3}, S: [2]int{1, 1}, Pad: [4]int{0, 1, 0, 0}}), []int8{-3, -4, 100}, []int8{-3, 31}},
		{one([3]int{1, 2, 1}, api.Node{Op: api.NMaxPool, K: [2]int{1, 2}, S: [2]int{1, 1}, Pad: [4]int{0, 1, 0, 1}}), []int8{-128, -5}, []int8{-128, -5, -5}},
		{one([3]int{1, 1, 1}, api.Node{Op: api.NPad, Pad: [4]int{1, 1, 0, 0}, Zo: -7}), []int8{3}, []int8{-7, -7, -7, 3}},
		{one([3]int{1, 1, 1}, api.Node{Op: api.NFull, M1: 1 << 30, Lo: -128, Hi: 127, Zo: 1, Chans: 2, Bias: 1}, api.Const{Bytes: []int8{2, -2}}, api.Const{Words: []int32{1 << 28, 4}}), []int8{10}, []int8{127, -7}},
		{one([3]int{1, 1, 1}, api.Node{Op: api.NAdd, M1: 1 << 30, M2: 1<<31 - 1, S1: 15, S2: 31, Za: 2, Lo: -128, Hi: 127}), []int8{10}, []int8{8}},
		{one([3]int{1, 1, 1}, api.Node{Op: api.NAdd, M1: 1 << 30, S1: 16, Za: 127, Zb: -128, Lo: -128, Hi: 127}), []int8{-128}, []int8{-127}},
		{one([3]int{1, 1, 1}, api.Node{Op: api.NAdd, M2: 1 << 30, S2: 16, Zb: -127, Lo: -128, Hi: 127}), []int8{127}, []int8{127}},
		{one([3]int{1, 1, 1}, api.Node{Op: api.NMul, M1: 1 << 30, S1: 1, Za: -1, Zb: 1, Lo: -128, Hi: 127}), []int8{10}, []int8{25}},
		{api.Graph{Input: [3]int{1, 1, 2}}, []int8{4, -4}, []int8{4, -4}},
	} {
		if got := run(t, x.g, x.x...); !slices.Equal(got, x.want) {
			t.Error(i, got)
		}
		look(t, x.g, x.x)
	}
}

// P25.1: the errors, and what is shared.
func TestErrors(t *testing.T) {
	g, _ := family.One(api.NReshape, 5)
	x := family.Input(g, 1)
	for i, y := range []struct {
		g   api.Graph
		x   []int8
		err api.Errno
	}{{g, x[1:], api.ErrArg}, {g, append(slices.Clone(x), 1), api.ErrArg}, {g, nil, api.ErrArg}, {api.Graph{}, nil, api.ErrShape}, {api.Graph{Input: [3]int{65, 1, 1}}, x, api.ErrSize}, {api.Graph{Input: [3]int{1, 1, 1}, Nodes: []api.Node{{}}}, nil, api.ErrUnsup}, {api.Graph{Input: [3]int{1, 1, 1}, Output: 1}, nil, api.ErrForm}} {
		values, err := eval.Values(y.g, y.x)
		out, too := eval.Run(y.g, y.x)
		if values != nil || err != y.err || out != nil || too != y.err {
			t.Error(i, err, too)
		}
	}
	values, _ := eval.Values(g, x)
	kept := slices.Clone(values[1])
	values[0][0]++
	if x[0] == values[0][0] || !slices.Equal(values[1], kept) {
		t.Error("shared")
	}
	c, _ := family.One(api.NConst, 5)
	values, _ = eval.Values(c, family.Input(c, 1))
	values[1][0]++
	if c.Consts[0].Bytes[0] == values[1][0] {
		t.Error("shared with a constant")
	}
}
