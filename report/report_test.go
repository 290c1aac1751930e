package report_test

import (
	"slices"
	"strconv"
	"strings"
	"testing"

	"pintle/api"
	"pintle/family"
	"pintle/infer"
	"pintle/report"
	"pintle/sched"
)

// P37.1
func TestName(t *testing.T) {
	for i, name := range strings.Fields("const conv depth full maxpool avgpool add mul clamp pad reshape concat argmax softmax") {
		if got := report.Name(i + 1); got != name {
			t.Error(i, got)
		}
	}
	for _, op := range []int{0, -1, 15, 1 << 40, -1 << 63} {
		if got := report.Name(op); got != "" {
			t.Error(op, got)
		}
	}
}

func wrong(t *testing.T, look func(g api.Graph) (bool, api.Errno)) {
	t.Helper()
	for i, x := range []struct {
		g   api.Graph
		err api.Errno
	}{{api.Graph{}, api.ErrShape}, {api.Graph{Input: [3]int{65, 1, 1}}, api.ErrSize}, {api.Graph{Input: [3]int{1, 1, 1}, Output: 1}, api.ErrForm}, {api.Graph{Input: [3]int{1, 1, 1}, Nodes: []api.Node{{}}}, api.ErrUnsup}, {api.Graph{Input: [3]int{1, 1, 1}, Nodes: []api.Node{{Op: api.NClamp, Lo: 1}}}, api.ErrQuant}} {
		if empty, err := look(x.g); !empty || err != x.err {
			t.Error(i, err)
		}
	}
}

// P37.2
func TestWork(t *testing.T) {
	for seed := range uint64(40) {
		for op := api.NConst; op <= api.NOps; op++ {
			g, _ := family.One(op, seed)
			shapes, _ := infer.Shapes(g)
			last := len(g.Nodes) - 1
			n, in, out := g.Nodes[last], shapes[g.Nodes[last].A], shapes[g.Output]
			// Each output's taps, one by one.
			taps := 0
			for y := range out[0] {
				for x := range out[1] {
					for i := range n.K[0] {
						for j := range n.K[1] {
							row, column := y*n.S[0]-n.Pad[0]+i, x*n.S[1]-n.Pad[1]+j
							if row >= 0 && row < in[0] && column >= 0 && column < in[1] {
								taps++
							}
						}
					}
				}
			}
			want := 0
			switch op {
			case api.NConv:
				want = taps * out[2] * in[2]
			case api.NDepth:
				want = taps * out[2]
			case api.NFull:
				want = out[2] * in[0] * in[1] * in[2]
			case api.NMul:
				want = out[0] * out[1] * out[2]
			}
			work, err := report.Work(g)
			if len(work) != len(g.Nodes) || work[last] != want || err != api.OK {
				t.Error(op, work, want, err)
			}
		}
	}
	wrong(t, func(g api.Graph) (bool, api.Errno) {
		work, err := report.Work(g)
		return work == nil, err
	})
}

// P37.3
func TestNodes(t *testing.T) {
	g := api.Graph{Input: [3]int{1, 1, 2}, Consts: []api.Const{{Bytes: []int8{1, 2}}}, Nodes: []api.Node{{Op: api.NClamp, Hi: 5}, {Op: api.NConst, Shape: [3]int{1, 1, 2}}, {Op: api.NMul, A: 1, B: 1}, {Op: api.NConcat, A: 3, B: 1}}, Output: 3}
	want := "1 clamp 1x1x2 0\n2 const 1x1x2 0 -\n3 mul 1x1x2 2\n4 concat 1x1x4 0 -\n"
	if got, err := report.Nodes(g); got != want || err != api.OK {
		t.Errorf("%q %v", got, err)
	}
	if got, err := report.Nodes(api.Graph{Input: [3]int{1, 1, 2}}); got != "" || err != api.OK {
		t.Errorf("%q %v", got, err)
	}
	wrong(t, func(g api.Graph) (bool, api.Errno) {
		s, err := report.Nodes(g)
		return s == "", err
	})
	for seed := range uint64(30) {
		g := family.Net(seed, 12)
		s, _ := report.Nodes(g)
		shapes, _ := infer.Shapes(g)
		needed, _ := sched.Needed(g)
		work, _ := report.Work(g)
		for i, line := range strings.Split(strings.TrimSuffix(s, "\n"), "\n") {
			var shape []string
			for _, n := range shapes[i+1] {
				shape = append(shape, strconv.Itoa(n))
			}
			words := []string{strconv.Itoa(i + 1), report.Name(g.Nodes[i].Op), strings.Join(shape, "x"), strconv.Itoa(work[i])}
			if !needed[i+1] {
				words = append(words, "-")
			}
			if !slices.Equal(strings.Split(line, " "), words) {
				t.Error(seed, line, words)
			}
		}
	}
}

const shown = "nodes 1\nfolded 2\nfused 3\ntext 4\nconsts 5\narena 6\nstack 7\nflash 8\nram 2147483647\nfuel 18446744073709551615\n"

var full = api.Report{Nodes: 1, Folded: 2, Fused: 3, Text: 4, Consts: 5, Arena: 6, Stack: 7, Flash: 8, RAM: 1<<31 - 1, Fuel: 1<<64 - 1}

// P37.4, P37.5
func TestShowAndParse(t *testing.T) {
	none := "nodes 0\nfolded 0\nfused 0\ntext 0\nconsts 0\narena 0\nstack 0\nflash 0\nram 0\nfuel 0\n"
	for i, x := range []struct {
		r api.Report
		s string
	}{{full, shown}, {api.Report{}, none}} {
		if got := report.Show(x.r); got != x.s {
			t.Errorf("%d: %q", i, got)
		}
		if r, ok := report.Parse(x.s); r != x.r || !ok {
			t.Error(i, r, ok)
		}
	}
	if got := report.Show(api.Report{Nodes: -1, Text: -1 << 63, RAM: -7}); got != none {
		t.Errorf("%q", got)
	}
	if got := report.Show(api.Report{Nodes: 1<<63 - 1}); !strings.HasPrefix(got, "nodes 9223372036854775807\n") {
		t.Errorf("%q", got)
	}
}

// P37.4: what is no report's text.
func TestParseWrong(t *testing.T) {
	for _, x := range [][2]string{
		{"nodes 1", "nodes 01"}, {"nodes 1", "nodes -1"}, {"nodes 1", "nodes +1"}, {"nodes 1", "nodes  1"}, {"nodes 1", "nodes 1 "}, {"nodes 1", " nodes 1"}, {"nodes 1", "nodes"}, {"nodes 1", "nodes "}, {"nodes 1", "Nodes 1"}, {"nodes 1", "nodes x"}, {"nodes 1\n", ""}, {"folded 2\n", "folded 2\n\n"}, {"nodes 1\nfolded 2", "folded 2\nnodes 1"},
		{"2147483647", "2147483648"}, {"18446744073709551615", "18446744073709551616"}, {"18446744073709551615\n", "18446744073709551615"}, {"18446744073709551615\n", "5\n\n"}, {"18446744073709551615\n", "5\nmore 1\n"}, {"fuel", "fool"}, {"\n", "\r\n"}, {shown, ""}, {"nodes 1", "nodes 1\x00"},
	} {
		s := strings.Replace(shown, x[0], x[1], 1)
		if r, ok := report.Parse(s); ok || r != (api.Report{}) {
			t.Errorf("%q: %v", s, r)
		}
	}
}
