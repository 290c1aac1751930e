package live_test

import (
	"slices"
	"testing"

	"pintle/api"
	"pintle/family"
	"pintle/infer"
	"pintle/live"
	"pintle/sched"
	"pintle/tensor"
)

func clamp(a int) api.Node     { return api.Node{Op: api.NClamp, A: a, Lo: -9, Hi: 9} }
func concat(a, b int) api.Node { return api.Node{Op: api.NConcat, A: a, B: b} }
func mul(a, b int) api.Node    { return api.Node{Op: api.NMul, A: a, B: b} }

var constant = api.Node{Op: api.NConst, Shape: [3]int{1, 1, 2}}

func net(out int, nodes ...api.Node) api.Graph {
	return api.Graph{Input: [3]int{1, 1, 2}, Consts: []api.Const{{Bytes: []int8{1, 2}}}, Nodes: nodes, Output: out}
}

func life(value, buffer, size, from, to int) api.Life {
	return api.Life{Value: value, Buffer: buffer, Size: size, From: from, To: to}
}

// P29.1
func TestLives(t *testing.T) {
	for i, x := range []struct {
		g    api.Graph
		over bool
		want []api.Life
	}{
		{net(2, clamp(0), clamp(1)), true, []api.Life{life(1, 1, 2, 0, 1), life(2, 1, 2, 1, 2)}}, {net(2, clamp(0), clamp(1)), false, []api.Life{life(1, 1, 2, 0, 1), life(2, 2, 2, 1, 2)}}, {net(0), true, nil}, {net(1, constant), true, nil}, {net(1, clamp(0)), true, []api.Life{life(1, 1, 2, 0, 1)}},
		{net(3, clamp(0), clamp(1), clamp(2)), true, []api.Life{life(1, 1, 2, 0, 1), life(2, 1, 2, 1, 2), life(3, 1, 2, 2, 3)}},
		// Read on by another one: not taken over.
		{net(3, clamp(0), clamp(1), concat(1, 2)), true, []api.Life{life(1, 1, 2, 0, 2), life(2, 2, 2, 1, 2), life(3, 3, 4, 2, 3)}},
		// The first of both that can be; the other one is not.
		{net(3, clamp(0), clamp(0), mul(2, 1)), true, []api.Life{life(1, 1, 2, 0, 2), life(2, 2, 2, 1, 2), life(3, 2, 2, 2, 3)}}, {net(3, clamp(0), clamp(0), mul(0, 1)), true, []api.Life{life(1, 1, 2, 0, 1), life(3, 1, 2, 1, 2)}}, {net(2, clamp(0), mul(1, 1)), true, []api.Life{life(1, 1, 2, 0, 1), life(2, 1, 2, 1, 2)}},
		{net(4, constant, clamp(0), concat(1, 2), api.Node{Op: api.NReshape, A: 3, Shape: [3]int{2, 2, 1}}), true, []api.Life{life(2, 2, 2, 0, 1), life(3, 3, 4, 1, 2), life(4, 3, 4, 2, 3)}},
		// A constant and the input are not taken over, nor by a concat or an argmax.
		{net(2, constant, clamp(1)), true, []api.Life{life(2, 2, 2, 0, 1)}}, {net(2, clamp(0), api.Node{Op: api.NArgmax, A: 1}), true, []api.Life{life(1, 1, 2, 0, 1), life(2, 2, 1, 1, 2)}},
		// The output is read by nodes that are not needed, and held to the end.
		{net(2, clamp(0), clamp(1), clamp(2)), true, []api.Life{life(1, 1, 2, 0, 1), life(2, 1, 2, 1, 2)}},
	} {
		if got, err := live.Lives(x.g, x.over); !slices.Equal(got, x.want) || err != api.OK {
			t.Error(i, got, err)
		}
	}
	for i, x := range []struct {
		g   api.Graph
		err api.Errno
	}{{api.Graph{}, api.ErrShape}, {api.Graph{Input: [3]int{65, 1, 1}}, api.ErrSize}, {net(1), api.ErrForm}, {net(0, api.Node{}), api.ErrUnsup}, {net(0, api.Node{Op: api.NClamp, Lo: 1}), api.ErrQuant}} {
		if lives, err := live.Lives(x.g, i%2 == 0); lives != nil || err != x.err {
			t.Error(i, err)
		}
	}
}

// P29.2
func TestPeak(t *testing.T) {
	const most = 1 << 40
	for i, x := range []struct {
		l    []api.Life
		want int
	}{
		{nil, 0}, {[]api.Life{life(1, 1, 5, 0, 0)}, 5}, {[]api.Life{life(1, 1, 5, 0, 1), life(2, 2, 7, 1, 3), life(3, 3, 4, 2, 2)}, 12}, {[]api.Life{life(1, 1, 5, 0, 1), life(2, 1, 7, 1, 3)}, 7}, {[]api.Life{life(1, 1, 7, 0, 1), life(2, 1, 5, 1, 3), life(3, 3, 1, 3, 3)}, 7},
		{[]api.Life{life(1, 1, 5, 3, 2)}, 0}, {[]api.Life{life(1, 1, -5, 0, 2), life(2, 2, 3, 1, 1)}, 3}, {[]api.Life{life(1, 1, -5, 0, 2)}, 0}, {[]api.Life{life(1, 1, 1<<62, 0, 2), life(2, 2, 1<<63-1, 0, 2)}, most}, {[]api.Life{life(1, 1, most-1, 0, 2)}, most - 1}, {[]api.Life{life(1, 1, most-1, 0, 2), life(2, 2, 2, 2, 2)}, most},
		{[]api.Life{life(1, 1, 5, -1<<63, 1<<63-1), life(2, 2, 7, 1<<63-1, 1<<63-1)}, 12}, {[]api.Life{life(9, -4, 5, -7, -3), life(9, -5, 6, -3, 8)}, 11},
	} {
		kept := slices.Clone(x.l)
		if got := live.Peak(x.l); got != x.want || !slices.Equal(kept, x.l) {
			t.Error(i, got)
		}
	}
}

// P29.3
func TestHeld(t *testing.T) {
	taken := 0
	for seed := range uint64(400) {
		g := family.Net(seed, 12)
		g.Output = int(seed*5) % 13
		order, _ := sched.Order(g)
		shapes, _ := infer.Shapes(g)
		plain, _ := live.Lives(g, false)
		over, err := live.Lives(g, true)
		if len(plain) != len(order) || len(over) != len(order) || err != api.OK {
			t.Fatal(seed, err)
		}
		for i, x := range over {
			y := plain[i]
			last := i
			for place, v := range order {
				if slices.Contains(infer.Inputs(g.Nodes[v-1]), x.Value) {
					last = place
				}
			}
			if x.Value == g.Output {
				last = len(order)
			}
			if x.Value != order[i] || x.From != i || x.To != last || x.Size != tensor.Size(shapes[x.Value]) || y.Buffer != y.Value {
				t.Fatal(seed, x)
			}
			x.Buffer = x.Value
			if x != y {
				t.Fatal(seed, x, y)
			}
		}
		for i, x := range over {
			for _, y := range over[:i] {
				// Two that lie in one buffer are alike in size, and the one begins where the other ends, or behind.
				if x.Buffer == y.Buffer && (x.From < y.To || x.Size != y.Size) {
					t.Fatal(seed, x, y)
				}
			}
			if x.Buffer != x.Value {
				taken++
			}
		}
		if live.Peak(over) > live.Peak(plain) {
			t.Error(seed)
		}
	}
	if taken < 100 {
		t.Error("few are taken over", taken)
	}
}
