package family_test

import (
	"reflect"
	"slices"
	"testing"

	"pintle/api"
	"pintle/eval"
	"pintle/family"
	"pintle/graph"
	"pintle/harness"
	"pintle/infer"
	"pintle/mcc"
	"pintle/tensor"
)

var target = api.Target{Flash: 65536, FlashSize: 1 << 20, RAM: 0x20000000, RAMSize: 1 << 18}

// P36.1
func TestRandom(t *testing.T) {
	// The first numbers of splitmix64 from 0 on.
	s := uint64(0)
	for i, want := range []uint64{0xe220a8397b1dcdaf, 0x6e789e6aa1b965f4, 0x06c45d188009454f, 0xf88bb8a8724c81ec, 0x1b39896a51a8749b} {
		var n uint64
		s, n = family.Random(s)
		if n != want || s != uint64(i+1)*0x9e3779b97f4a7c15 {
			t.Errorf("%d: %x %x", i, s, n)
		}
	}
	if s, _ := family.Random(1<<64 - 1); s != 0x9e3779b97f4a7c14 {
		t.Errorf("%x", s)
	}
}

var seeds = []uint64{0, 1, 2, 3, 5, 100, 1 << 32, 1<<63 + 5, 1<<64 - 1}

// P36.2
func TestOne(t *testing.T) {
	for op := api.NConst; op <= api.NOps; op++ {
		seen := map[[3]int]int{}
		for _, seed := range append(seeds, 11, 12, 13, 14, 15, 16, 17, 18, 19) {
			g, ok := family.One(op, seed)
			shapes, err := infer.Shapes(g)
			if !ok || err != api.OK || g.Output == 0 || g.Nodes[g.Output-1].Op != op {
				t.Fatal(op, seed, ok, err, g)
			}
			for i, n := range g.Nodes {
				if n.Op != api.NConst && i != g.Output-1 {
					t.Error(op, seed, n)
				}
			}
			seen[shapes[g.Output]]++
			again, _ := family.One(op, seed)
			if !reflect.DeepEqual(g, again) {
				t.Error("another one", op, seed)
			}
		}
		if len(seen) < 5 {
			t.Error("they are much alike", op, seen)
		}
	}
	for _, op := range []int{0, -1, 15, 1 << 40, -1 << 63} {
		if g, ok := family.One(op, 5); ok || !reflect.DeepEqual(g, api.Graph{}) {
			t.Error(op, g)
		}
	}
}

// P36.3
func TestNet(t *testing.T) {
	ops := map[int]int{}
	for seed := range uint64(200) {
		whole := family.Net(seed, 12)
		for _, many := range []int{-1 << 63, -1, 0, 1, 2, 5, 11, 12, 13, 1<<63 - 1} {
			g := family.Net(seed, many)
			want := min(max(many, 0), 12)
			shapes, err := infer.Shapes(g)
			if err != api.OK || len(g.Nodes) != want || g.Output != want {
				t.Fatal(seed, many, err, g.Output)
			}
			for _, s := range shapes {
				if tensor.Size(s) > 256 {
					t.Error(seed, s)
				}
			}
			if g.Input != whole.Input || !slices.Equal(g.Nodes, whole.Nodes[:want]) {
				t.Fatal("other nodes", seed, many)
			}
			for i, c := range g.Consts {
				if !reflect.DeepEqual(c, whole.Consts[i]) {
					t.Fatal("other constants", seed, many)
				}
			}
		}
		for _, n := range whole.Nodes {
			ops[n.Op]++
		}
	}
	if len(ops) != api.NOps {
		t.Error("not all operators are there", ops)
	}
}

// P36.4
func TestInput(t *testing.T) {
	for _, s := range [][3]int{{1, 1, 1}, {3, 5, 7}, {64, 64, 4}} {
		for _, seed := range seeds {
			x := family.Input(api.Graph{Input: s}, seed)
			state := seed
			for i := range s[0] * s[1] * s[2] {
				var n uint64
				state, n = family.Random(state)
				if x[i] != int8(n) {
					t.Fatal(s, seed, i)
				}
			}
			if len(x) != s[0]*s[1]*s[2] {
				t.Error(len(x))
			}
		}
	}
	for _, s := range [][3]int{{}, {0, 1, 1}, {65, 1, 1}, {64, 64, 5}, {-1, 1, 1}} {
		if x := family.Input(api.Graph{Input: s}, 5); len(x) != 0 {
			t.Error(s, len(x))
		}
	}
}

// P36.5
func TestAll(t *testing.T) {
	look := func(g api.Graph, seed uint64) {
		t.Helper()
		b, err := graph.Write(g)
		if err != api.OK {
			t.Fatal(err)
		}
		code, _, err := mcc.Compile(b, target, api.Options{Fold: seed%2 == 0})
		if err != api.OK {
			t.Fatal(err)
		}
		x := family.Input(g, seed)
		want, _ := eval.Run(g, x)
		if got, _, err := harness.Run(code, x); !slices.Equal(got, want) || err != api.OK {
			t.Error(seed, got, want, err)
		}
	}
	for seed := range uint64(30) {
		for op := api.NConst; op <= api.NOps; op++ {
			g, _ := family.One(op, seed*seed)
			look(g, seed)
		}
		for many := range 5 {
			look(family.Net(seed, many), seed)
		}
	}
}
