package fold_test

import (
	"reflect"
	"slices"
	"testing"

	"pintle/api"
	"pintle/eval"
	"pintle/family"
	"pintle/fold"
	"pintle/infer"
)

func clamp(a int) api.Node { return api.Node{Op: api.NClamp, A: a, Lo: -9, Hi: 5} }

// sample reads a constant here and there: values 1, 2, 4 and 5 are known.
func sample() api.Graph {
	return api.Graph{
		Input:  [3]int{1, 1, 2},
		Consts: []api.Const{{Bytes: []int8{3, 90}}},
		Nodes:  []api.Node{{Op: api.NConst, Shape: [3]int{1, 1, 2}}, clamp(1), clamp(0), {Op: api.NConcat, A: 1, B: 2}, {Op: api.NArgmax, A: 4}, {Op: api.NConcat, A: 3, B: 1}},
		Output: 6,
	}
}

// P26.1
func TestKnown(t *testing.T) {
	known, err := fold.Known(sample())
	if !slices.Equal(known, []bool{false, true, true, false, true, true, false}) || err != api.OK {
		t.Error(known, err)
	}
	known, err = fold.Known(api.Graph{Input: [3]int{1, 1, 1}})
	if !slices.Equal(known, []bool{false}) || err != api.OK {
		t.Error(known, err)
	}
}

// P26.1, P26.2: the errors.
func TestErrors(t *testing.T) {
	for i, x := range []struct {
		g   api.Graph
		err api.Errno
	}{{api.Graph{}, api.ErrShape}, {api.Graph{Input: [3]int{65, 1, 1}}, api.ErrSize}, {api.Graph{Input: [3]int{1, 1, 1}, Nodes: []api.Node{{}}}, api.ErrUnsup}, {api.Graph{Input: [3]int{1, 1, 1}, Output: -1}, api.ErrForm}, {api.Graph{Input: [3]int{1, 1, 1}, Nodes: []api.Node{{Op: api.NClamp, Lo: 1}}}, api.ErrQuant}} {
		known, err := fold.Known(x.g)
		g, many, too := fold.Fold(x.g)
		if known != nil || err != x.err || !reflect.DeepEqual(g, api.Graph{}) || many != 0 || too != x.err {
			t.Error(i, err, too)
		}
	}
}

// P26.2
func TestFold(t *testing.T) {
	g := sample()
	got, many, err := fold.Fold(g)
	want := sample()
	s := [3]int{1, 1, 2}
	want.Consts = append(want.Consts, api.Const{Bytes: []int8{3, 5}}, api.Const{Bytes: []int8{3, 90, 3, 5}}, api.Const{Bytes: []int8{1}})
	want.Nodes[1] = api.Node{Op: api.NConst, W: 1, Shape: s}
	want.Nodes[3] = api.Node{Op: api.NConst, W: 2, Shape: [3]int{1, 1, 4}}
	want.Nodes[4] = api.Node{Op: api.NConst, W: 3, Shape: [3]int{1, 1, 1}}
	if !reflect.DeepEqual(got, want) || many != 3 || err != api.OK {
		t.Error(got, many, err)
	}
	got.Consts[0].Bytes[0], got.Nodes[0].Op = 77, 77
	if !reflect.DeepEqual(g, sample()) {
		t.Error("what was handed in is shared")
	}
	plain := api.Graph{Input: s, Nodes: []api.Node{clamp(0)}, Output: 1}
	if got, many, err := fold.Fold(plain); !reflect.DeepEqual(got, plain) || many != 0 || err != api.OK {
		t.Error(got, many, err)
	}
}

// P26.2: no more constants than there may be.
func TestMost(t *testing.T) {
	for _, x := range [][3]int{{75, 10, 5}, {80, 10, 0}, {79, 10, 1}, {90, 10, 0}, {60, 10, 10}} {
		g := sample()
		g.Consts = slices.Repeat(g.Consts, x[0])
		g.Nodes = g.Nodes[:1]
		g.Output = 0
		for range x[1] {
			g.Nodes = append(g.Nodes, clamp(1))
		}
		got, many, err := fold.Fold(g)
		if many != x[2] || len(got.Consts) != x[0]+x[2] || err != api.OK {
			t.Error(x, many, len(got.Consts), err)
		}
		for i, n := range got.Nodes[1:] {
			if (n.Op == api.NConst) != (i < x[2]) {
				t.Error(x, i, n)
			}
		}
	}
}

// P26.3
func TestTheSame(t *testing.T) {
	folded := 0
	for seed := range uint64(300) {
		g := family.Net(seed, 12)
		f, many, err := fold.Fold(g)
		if err != api.OK {
			t.Fatal(err)
		}
		folded += many
		if _, err := infer.Shapes(f); err != api.OK {
			t.Fatal(err)
		}
		for k := range uint64(3) {
			x := family.Input(g, seed*3+k)
			a, _ := eval.Values(g, x)
			b, err := eval.Values(f, x)
			if !reflect.DeepEqual(a, b) || err != api.OK {
				t.Fatal(seed, err)
			}
		}
		if again, more, _ := fold.Fold(f); more != 0 || !reflect.DeepEqual(again, f) {
			t.Error("again", seed, more)
		}
	}
	if folded < 100 {
		t.Error("few are folded", folded)
	}
}
