package sched_test

import (
	"slices"
	"testing"

	"pintle/api"
	"pintle/eval"
	"pintle/family"
	"pintle/infer"
	"pintle/sched"
	"pintle/tensor"
)

func clamp(a int) api.Node     { return api.Node{Op: api.NClamp, A: a, Lo: -9, Hi: 9} }
func concat(a, b int) api.Node { return api.Node{Op: api.NConcat, A: a, B: b} }
func argmax(a int) api.Node    { return api.Node{Op: api.NArgmax, A: a} }

var constant = api.Node{Op: api.NConst, Shape: [3]int{1, 1, 2}}

func net(out int, nodes ...api.Node) api.Graph {
	return api.Graph{Input: [3]int{1, 1, 2}, Consts: []api.Const{{Bytes: []int8{1, 2}}}, Nodes: nodes, Output: out}
}

// P28.1
func TestNeeded(t *testing.T) {
	for i, x := range []struct {
		g    api.Graph
		want []bool
	}{
		{net(0), []bool{true}}, {net(0, clamp(0)), []bool{true, false}}, {net(1, constant, clamp(1)), []bool{false, true, false}}, {net(2, constant, clamp(1), clamp(0)), []bool{false, true, true, false}},
		{net(4, clamp(0), clamp(0), clamp(2), concat(1, 1), clamp(4)), []bool{true, true, false, false, true, false}},
	} {
		if got, err := sched.Needed(x.g); !slices.Equal(got, x.want) || err != api.OK {
			t.Error(i, got, err)
		}
	}
	for i, x := range []struct {
		g   api.Graph
		err api.Errno
	}{{api.Graph{}, api.ErrShape}, {api.Graph{Input: [3]int{65, 1, 1}}, api.ErrSize}, {net(1), api.ErrForm}, {net(0, api.Node{}), api.ErrUnsup}, {net(0, api.Node{Op: api.NClamp, Lo: 1}), api.ErrQuant}} {
		needed, err := sched.Needed(x.g)
		order, too := sched.Order(x.g)
		if needed != nil || err != x.err || order != nil || too != x.err {
			t.Error(i, err, too)
		}
	}
}

// P28.2
func TestOrder(t *testing.T) {
	for i, x := range []struct {
		g    api.Graph
		want []int
	}{
		{net(0), nil}, {net(1, constant), nil}, {net(2, clamp(0), clamp(0)), []int{2}}, {net(0, clamp(0)), nil},
		// Of those with as few the least one.
		{net(3, clamp(0), clamp(0), concat(1, 2)), []int{1, 2, 3}},
		// 3 frees 1 and is smaller, so it comes ahead of 2.
		{net(4, clamp(0), concat(0, 0), argmax(1), concat(3, 3)), []int{1, 3, 4}},
		{net(5, concat(0, 0), concat(0, 0), argmax(1), argmax(2), concat(3, 4)), []int{1, 3, 2, 4, 5}},
		// A value that two read is freed by the last of them alone; read twice by one node it counts once.
		{net(6, concat(0, 0), concat(1, 1), argmax(1), argmax(2), concat(3, 4), clamp(5)), []int{1, 3, 2, 4, 5, 6}},
		{net(5, concat(0, 0), clamp(0), argmax(1), argmax(2), concat(3, 4)), []int{2, 4, 1, 3, 5}},
		// The output is held on, even if a node reads it; a constant and the input are not counted.
		{net(1, clamp(0), clamp(1)), []int{1}}, {net(4, constant, concat(1, 0), clamp(2), concat(3, 1)), []int{2, 3, 4}},
	} {
		got, err := sched.Order(x.g)
		if !slices.Equal(got, x.want) || err != api.OK {
			t.Error(i, got, err)
		}
	}
}

// slow tells the order as the chapter's words say it.
func slow(g api.Graph) []int {
	shapes, _ := infer.Shapes(g)
	needed, _ := sched.Needed(g)
	isConst := func(v int) bool { return v > 0 && g.Nodes[v-1].Op == api.NConst }
	var order []int
	there := func(v int) bool { return v == 0 || isConst(v) || slices.Contains(order, v) }
	for {
		best, least := -1, 0
		for v := 1; v <= len(g.Nodes); v++ {
			n := g.Nodes[v-1]
			if !needed[v] || there(v) || slices.ContainsFunc(infer.Inputs(n), func(r int) bool { return !there(r) }) {
				continue
			}
			more := tensor.Size(shapes[v])
			seen := map[int]int{}
			for _, r := range infer.Inputs(n) {
				seen[r]++
				if seen[r] > 1 || r == 0 || isConst(r) || r == g.Output {
					continue
				}
				other := false
				for o := 1; o <= len(g.Nodes); o++ {
					if o != v && needed[o] && !there(o) && slices.Contains(infer.Inputs(g.Nodes[o-1]), r) {
						other = true
					}
				}
				if !other {
					more -= tensor.Size(shapes[r])
				}
			}
			if best < 0 || more < least {
				best, least = v, more
			}
		}
		if best < 0 {
			return order
		}
		order = append(order, best)
	}
}

// branchy is a network whose values have many sizes and are read here and there, all of them needed.
func branchy(seed uint64) api.Graph {
	next := func(n int) int {
		var x uint64
		seed, x = family.Random(seed)
		return int(x % uint64(n))
	}
	g := net(0)
	sizes := []int{2}
	read := map[int]int{}
	put := func(n api.Node, size int) {
		for _, v := range infer.Inputs(n) {
			read[v]++
		}
		g.Nodes = append(g.Nodes, n)
		sizes = append(sizes, size)
	}
	for len(g.Nodes) < 12 {
		a, b := next(len(sizes)), next(len(sizes))
		switch next(6) {
		case 0:
			put(constant, 2)
		case 1:
			put(argmax(a), 1)
		case 2:
			put(clamp(a), sizes[a])
		default:
			if sizes[a]+sizes[b] <= 30 {
				put(concat(a, b), sizes[a]+sizes[b])
			}
		}
	}
	// What nobody reads is brought to one element, and all of these together.
	last := -1
	for v := 1; v <= 12; v++ {
		if read[v] > 0 {
			continue
		}
		put(argmax(v), 1)
		if last >= 0 {
			put(concat(last, len(g.Nodes)), sizes[last]+1)
		}
		last = len(g.Nodes)
	}
	g.Output = last
	return g
}

// P28.2, P28.3, P28.4
func TestByChance(t *testing.T) {
	for seed := range uint64(1200) {
		g := family.Net(seed, 12)
		g.Output = int(seed*7) % 13
		if seed%3 > 0 {
			g = branchy(seed)
		}
		if seed%3 > 1 {
			g.Output = 1 + int(seed)%len(g.Nodes)
		}
		order, err := sched.Order(g)
		if err != api.OK || !slices.Equal(order, slow(g)) {
			t.Fatal(seed, order, slow(g), err)
		}
		needed, _ := sched.Needed(g)
		x := family.Input(g, seed)
		want, _ := eval.Run(g, x)
		// A network of the needed nodes alone, in that order, makes the output.
		made := api.Graph{Input: g.Input, Consts: g.Consts}
		at := map[int]int{0: 0}
		put := func(v int) {
			n := g.Nodes[v-1]
			reads := infer.Inputs(n)
			for _, r := range reads {
				if _, ok := at[r]; !ok {
					t.Fatal(seed, "ahead of what it reads", v)
				}
			}
			if len(reads) > 0 {
				n.A = at[n.A]
			}
			if len(reads) > 1 {
				n.B = at[n.B]
			}
			made.Nodes = append(made.Nodes, n)
			at[v] = len(made.Nodes)
		}
		for i, n := range g.Nodes {
			if n.Op == api.NConst && needed[i+1] {
				put(i + 1)
			}
		}
		for _, v := range order {
			put(v)
		}
		made.Output = at[g.Output]
		if got, err := eval.Run(made, x); !slices.Equal(got, want) || err != api.OK {
			t.Fatal(seed, got, want, err)
		}
	}
}
