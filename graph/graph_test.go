package graph_test

import (
	"bytes"
	"reflect"
	"slices"
	"testing"

	"pintle/api"
	"pintle/graph"
)

func word(n int) []byte { return []byte{byte(n), byte(n >> 8), byte(n >> 16), byte(n >> 24)} }

func file(parts ...any) []byte {
	b := []byte{0x4e, 0x4e, 0x54, 0x31}
	for _, p := range parts {
		switch p := p.(type) {
		case int:
			b = append(b, word(p)...)
		case string:
			b = append(b, p...)
		}
	}
	return b
}

var node = api.Node{Op: 1, A: 2, B: 3, K: [2]int{4, 5}, S: [2]int{6, 7}, Pad: [4]int{8, 9, 10, 11}, Za: 12, Zb: 13, Zo: -14, M1: 1<<31 - 1, M2: -1 << 31, S1: 17, S2: 18, Lo: 19, Hi: 20, W: 21, Bias: 22, Chans: 23, Shape: [3]int{24, 25, 26}}

func sample() api.Graph {
	return api.Graph{Input: [3]int{-1, 1 << 20, 3}, Output: -7, Consts: []api.Const{{Bytes: []int8{-1, 2}}, {Words: []int32{-5, 1 << 30}}, {}}, Nodes: []api.Node{node, {}}}
}

// P23.1
func TestBytes(t *testing.T) {
	b, err := graph.Write(sample())
	parts := []any{-1, 1 << 20, 3, 3, 2, -7, 2, "\xff\x02", 0, 0, 2, -5, 1 << 30, 0, 0}
	for i := 1; i <= 26; i++ {
		parts = append(parts, map[int]int{14: -14, 15: 1<<31 - 1, 16: -1 << 31}[i])
		if i < 14 || i > 16 {
			parts[len(parts)-1] = i
		}
	}
	parts = append(parts, 0)
	for range 27 {
		parts = append(parts, 0)
	}
	if !bytes.Equal(b, file(parts...)) || err != api.OK {
		t.Errorf("%x\n%x %v", b, file(parts...), err)
	}
	b, err = graph.Write(api.Graph{})
	if !bytes.Equal(b, file(0, 0, 0, 0, 0, 0)) || len(b) != 28 || err != api.OK {
		t.Error(b, err)
	}
}

// P23.2
func TestWriteWrong(t *testing.T) {
	both := api.Const{Bytes: []int8{1}, Words: []int32{1}}
	good := []func(g *api.Graph){
		func(g *api.Graph) { g.Consts = make([]api.Const, 80) }, func(g *api.Graph) { g.Nodes = make([]api.Node, 40) }, func(g *api.Graph) { g.Consts[0].Bytes = make([]int8, 65536) }, func(g *api.Graph) { g.Consts[1].Words = make([]int32, 65536) },
		func(g *api.Graph) {
			g.Nodes = nil
			g.Consts = []api.Const{{Words: make([]int32, 65536)}, {Words: make([]int32, 65536)}, {Words: make([]int32, 65536)}, {Words: make([]int32, 65536-15)}}
		},
		func(g *api.Graph) { *g = whole(0) }, func(g *api.Graph) { g.Output = -1 << 31 }, func(g *api.Graph) { g.Nodes[0].Shape[2] = 1<<31 - 1 },
	}
	for i, change := range good {
		g := sample()
		change(&g)
		b, err := graph.Write(g)
		if err != api.OK || len(b) > api.MaxFile {
			t.Error(i, err)
		}
		if back, err := graph.Parse(b); !reflect.DeepEqual(normal(back), normal(g)) || err != api.OK {
			t.Error(i, err)
		}
	}
	for i, x := range []struct {
		change func(g *api.Graph)
		err    api.Errno
	}{
		{func(g *api.Graph) { g.Consts = slices.Repeat([]api.Const{both}, 81) }, api.ErrLong}, {func(g *api.Graph) { g.Nodes = make([]api.Node, 41) }, api.ErrLong}, {func(g *api.Graph) { g.Consts[0].Bytes = make([]int8, 65537) }, api.ErrLong}, {func(g *api.Graph) { g.Consts[1].Words = make([]int32, 65537) }, api.ErrLong},
		{func(g *api.Graph) {
			g.Nodes = nil
			g.Consts = []api.Const{{Words: make([]int32, 65536)}, {Words: make([]int32, 65536)}, {Words: make([]int32, 65536)}, {Words: make([]int32, 65536-14)}}
		}, api.ErrLong},
		{func(g *api.Graph) { *g = whole(1) }, api.ErrLong}, {func(g *api.Graph) { g.Output = 1 << 31 }, api.ErrLong}, {func(g *api.Graph) { g.Input[0] = -1<<31 - 1 }, api.ErrLong}, {func(g *api.Graph) { g.Nodes[1].Pad[3] = 1 << 40; g.Consts[2] = both }, api.ErrLong}, {func(g *api.Graph) { g.Consts[2] = both }, api.ErrForm},
	} {
		g := sample()
		x.change(&g)
		if b, err := graph.Write(g); b != nil || err != x.err {
			t.Error(i, err)
		}
	}
	for i := range 24 {
		g := sample()
		n := &g.Nodes[1]
		field := []*int{&n.Op, &n.A, &n.B, &n.K[0], &n.K[1], &n.S[0], &n.S[1], &n.Pad[0], &n.Pad[1], &n.Pad[2], &n.Pad[3], &n.Za, &n.Zb, &n.Zo, &n.S1, &n.S2, &n.Lo, &n.Hi, &n.W, &n.Bias, &n.Chans, &n.Shape[0], &n.Shape[1], &n.Shape[2]}[i]
		for _, far := range []int{1 << 31, -1<<31 - 1} {
			*field = far
			if _, err := graph.Write(g); err != api.ErrLong {
				t.Error(i, far, err)
			}
		}
	}
}

// whole is a network of just as many bytes as there may be, and so many more.
func whole(more int) api.Graph {
	g := api.Graph{Nodes: make([]api.Node, 40)}
	left := api.MaxFile - 28 - 40*27*4 + more
	for left > 0 {
		n := min(left-8, 65536)
		g.Consts = append(g.Consts, api.Const{Bytes: make([]int8, n)})
		left -= n + 8
	}
	return g
}

func normal(g api.Graph) api.Graph {
	var consts []api.Const
	for _, c := range g.Consts {
		consts = append(consts, api.Const{Bytes: append([]int8{}, c.Bytes...), Words: append([]int32{}, c.Words...)})
	}
	g.Consts, g.Nodes = consts, append([]api.Node{}, g.Nodes...)
	return g
}

// P23.3
func TestParseWrong(t *testing.T) {
	zeros := func(n int) string { return string(make([]byte, n)) }
	for i, x := range []struct {
		b   []byte
		err api.Errno
	}{
		{make([]byte, api.MaxFile+1), api.ErrLong}, {nil, api.ErrShort}, {[]byte("NNT2"), api.ErrShort}, {append([]byte("NNT2"), make([]byte, 24)...), api.ErrForm}, {make([]byte, api.MaxFile), api.ErrForm},
		{file(1, 1, 1, 81, 0, 0), api.ErrLong}, {file(1, 1, 1, 0, 41, 0), api.ErrLong}, {file(1, 1, 1, -1, 0, 0), api.ErrLong}, {file(1, 1, 1, 0, -1, 0), api.ErrLong},
		{file(1, 1, 1, 1, 0, 0), api.ErrShort}, {file(1, 1, 1, 1, 0, 0, "\x00\x00\x10"), api.ErrShort}, {file(1, 1, 1, 1, 0, 0, 5), api.ErrShort}, {file(1, 1, 1, 1, 0, 0, 65537), api.ErrLong}, {file(1, 1, 1, 1, 0, 0, -1), api.ErrLong}, {file(1, 1, 1, 1, 0, 0, 65536), api.ErrShort},
		{file(1, 1, 1, 1, 0, 0, 0), api.ErrShort}, {file(1, 1, 1, 1, 0, 0, 0, 65537), api.ErrLong}, {file(1, 1, 1, 1, 0, 0, 0, -5), api.ErrLong}, {file(1, 1, 1, 1, 0, 0, 0, 65536), api.ErrShort}, {file(1, 1, 1, 1, 0, 0, 0, 2, 1), api.ErrShort}, {file(1, 1, 1, 1, 0, 0, 0, 2, 1, "abc"), api.ErrShort},
		{file(1, 1, 1, 1, 0, 0, 1, "a", 1, 5), api.ErrForm}, {file(1, 1, 1, 1, 0, 0, 1, "a", 1), api.ErrShort}, {file(1, 1, 1, 1, 0, 0, 1, "a", 99999), api.ErrLong}, {file(1, 1, 1, 2, 0, 0, 1, "a", 1, 5, 99999), api.ErrForm},
		{file(1, 1, 1, 1, 0, 0, 1, "a", 0, "x"), api.ErrForm}, {file(1, 1, 1, 0, 0, 0, "x"), api.ErrForm},
		{file(1, 1, 1, 0, 1, 0, zeros(107)), api.ErrShort}, {file(1, 1, 1, 0, 1, 0, zeros(104), 1), api.ErrForm}, {file(1, 1, 1, 0, 2, 0, zeros(104), 1), api.ErrForm}, {file(1, 1, 1, 0, 2, 0, zeros(108)), api.ErrShort}, {file(1, 1, 1, 0, 1, 0, zeros(109)), api.ErrForm}, {file(1, 1, 1, 0, 1, 0, zeros(108)), api.OK},
	} {
		g, err := graph.Parse(x.b)
		if err != x.err || err != api.OK && !reflect.DeepEqual(g, api.Graph{}) {
			t.Error(i, err, x.err)
		}
	}
}

// P23.4
func TestThereAndBack(t *testing.T) {
	for i, g := range []api.Graph{{}, sample()} {
		b, _ := graph.Write(g)
		kept := bytes.Clone(b)
		back, err := graph.Parse(b)
		if !reflect.DeepEqual(normal(back), normal(g)) || err != api.OK {
			t.Error(i, back, err)
		}
		if c, err := graph.Write(back); !bytes.Equal(c, kept) || err != api.OK {
			t.Error(i, err)
		}
		for n := range b {
			if x, err := graph.Parse(b[:n]); err == api.OK || !reflect.DeepEqual(x, api.Graph{}) {
				t.Error(n, err)
			}
		}
		if i == 1 {
			back.Consts[0].Bytes[0]++
			if !bytes.Equal(b, kept) {
				t.Error("shared")
			}
		}
	}
}
