package mcc_test

import (
	"bytes"
	"reflect"
	"slices"
	"testing"

	"pintle/api"
	"pintle/eval"
	"pintle/exec"
	"pintle/family"
	"pintle/fold"
	"pintle/fuse"
	"pintle/graph"
	"pintle/image"
	"pintle/infer"
	"pintle/load"
	"pintle/mcc"
	"pintle/sched"
	"pintle/tensor"
)

const (
	flash = 0x10000
	ram   = 0x20000000
)

var target = api.Target{Flash: flash, FlashSize: 1 << 20, RAM: ram, RAMSize: 1 << 18}

// options tells the n-th of all options.
func options(n int) api.Options {
	return api.Options{Wide: n&1 > 0, Fuse: n&2 > 0, Fold: n&4 > 0, Over: n&8 > 0, InRAM: n&16 > 0}
}

func toBytes(l []int8) []byte {
	var b []byte
	for _, n := range l {
		b = append(b, byte(n))
	}
	return b
}

type span struct{ from, to int64 }

func of(r api.Region) span { return span{int64(r.Addr), int64(r.Addr) + int64(r.Size)} }

// watch runs an image with an input, and looks at each step as P33.2 says; it tells the output, and all events.
func watch(t *testing.T, m api.Image, x []int8) ([]byte, []api.Event) {
	t.Helper()
	c, err := load.Load(m)
	if err != api.OK || load.Input(c, m, toBytes(x)) != api.OK {
		t.Fatal(err)
	}
	stack := span{int64(m.Stack.Addr) - int64(m.Stack.Size), int64(m.Stack.Addr)}
	stores := []span{stack, of(m.Output)}
	for _, r := range m.Writes {
		stores = append(stores, of(r))
	}
	loads := append([]span{of(m.Input)}, stores...)
	for _, s := range m.Segs {
		loads = append(loads, span{int64(s.Addr), int64(s.Addr) + int64(len(s.Data))})
	}
	within := func(l []span, addr uint32, size int) bool {
		return slices.ContainsFunc(l, func(s span) bool { return int64(addr) >= s.from && int64(addr)+int64(size) <= s.to })
	}
	var events []api.Event
	for {
		e, trap := c.Step()
		if trap != api.TrapNone {
			if trap != api.TrapBreak || uint64(len(events)) != m.Fuel {
				t.Fatal("ends", trap, len(events), m.Fuel)
			}
			break
		}
		events = append(events, e)
		sp := int64(c.Reg(2))
		switch {
		case sp < stack.from || sp > stack.to:
			t.Fatal("stack", e)
		case !within([]span{of(m.Text)}, e.PC, 4):
			t.Fatal("fetch", e)
		case e.Kind == api.DidStore && !within(stores, e.Addr, e.Size):
			t.Fatal("store", e)
		case e.Kind == api.DidLoad && !within(loads, e.Addr, e.Size):
			t.Fatal("load", e)
		}
	}
	out, err := load.Output(c, m)
	if err != api.OK {
		t.Fatal(err)
	}
	if in, _ := c.Memory().Get(m.Input.Addr, int(m.Input.Size)); !bytes.Equal(in, toBytes(x)) {
		t.Fatal("the input is written")
	}
	return out, events
}

// look compiles a network, and holds what its program does and what is told of it against what it means.
func look(t *testing.T, g api.Graph, o api.Options, seed uint64) (api.Image, api.Report) {
	t.Helper()
	m, r, err := mcc.Program(g, target, o)
	if err != api.OK || !image.Valid(m) || m.Target != target {
		t.Fatal(err, image.Valid(m))
	}
	x := family.Input(g, seed)
	want, _ := eval.Run(g, x)
	if got, _ := watch(t, m, x); !bytes.Equal(got, toBytes(want)) {
		t.Fatal("output", got, want, o)
	}
	shapes, _ := infer.Shapes(g)
	if int(m.Input.Size) != tensor.Size(shapes[0]) || int(m.Output.Size) != tensor.Size(shapes[g.Output]) {
		t.Error("sizes", m.Input, m.Output)
	}
	texts := 0
	for _, s := range m.Segs {
		if s.Addr == m.Text.Addr && uint32(len(s.Data)) == m.Text.Size {
			texts++
		}
	}
	if texts != 1 {
		t.Error("the text is not one segment")
	}
	reported(t, g, o, m, r)
	return m, r
}

// reported holds a report against its image, as P33.3 says.
func reported(t *testing.T, g api.Graph, o api.Options, m api.Image, r api.Report) {
	t.Helper()
	var want api.Report
	if o.Fold {
		g, want.Folded, _ = fold.Fold(g)
	}
	if o.Fuse {
		g, want.Fused, _ = fuse.Fuse(g)
	}
	order, _ := sched.Order(g)
	want.Nodes, want.Text, want.Stack, want.Fuel = len(order), int(m.Text.Size), int(m.Stack.Size), m.Fuel
	want.Flash = int(m.Text.Addr + m.Text.Size - m.Target.Flash)
	for _, w := range m.Writes {
		want.Arena += int(w.Size)
	}
	seen := map[int]int{}
	note := func(at int) { seen[at] = len(g.Consts[at].Bytes) + 4*len(g.Consts[at].Words) }
	noteValue := func(v int) {
		if v > 0 && g.Nodes[v-1].Op == api.NConst {
			note(g.Nodes[v-1].W)
		}
	}
	for _, v := range order {
		n := g.Nodes[v-1]
		for _, in := range infer.Inputs(n) {
			noteValue(in)
		}
		if n.Op == api.NConv || n.Op == api.NDepth || n.Op == api.NFull {
			note(n.Bias)
			note(n.W)
		}
		if n.Op == api.NSoftmax {
			note(n.W)
		}
	}
	noteValue(g.Output)
	for _, n := range seen {
		want.Consts += n
	}
	want.RAM = int(m.RAM)
	if r != want || r.Flash > int(m.Target.FlashSize) || r.RAM > int(m.Target.RAMSize) {
		t.Errorf("%+v, not %+v", r, want)
	}
}

// P33.2, P33.3, P33.5
func TestProgram(t *testing.T) {
	for op := api.NConst; op <= api.NOps; op++ {
		for seed := range uint64(12) {
			g, _ := family.One(op, seed)
			look(t, g, options(int(seed*11+uint64(op))%32), seed)
		}
	}
	for seed := range uint64(24) {
		g := family.Net(seed, 12)
		g.Output = int(seed*7) % 13
		for _, n := range []int{0, 31, int(seed * 5 % 32)} {
			look(t, g, options(n), seed)
		}
	}
	g := family.Net(4, 8)
	for n := range 32 {
		look(t, g, options(n), 1)
	}
}

// P33.2: networks without nodes, and those whose output is a constant.
func TestPlain(t *testing.T) {
	for _, s := range [][3]int{{1, 1, 1}, {1, 1, 2}, {5, 3, 1}, {8, 8, 4}, {64, 64, 4}} {
		m, r := look(t, api.Graph{Input: s}, options(0), 3)
		if r.Nodes != 0 || r.Arena != 0 || len(m.Segs) != 1 {
			t.Error(r)
		}
	}
	g, _ := family.One(api.NConst, 1)
	for n := range 32 {
		if _, r := look(t, g, options(n), 3); r.Nodes != 0 || r.Consts == 0 {
			t.Error(r)
		}
	}
	clamp := func(a, lo, hi int) api.Node { return api.Node{Op: api.NClamp, A: a, Lo: lo, Hi: hi} }
	chain := api.Graph{Input: [3]int{2, 2, 2}, Nodes: []api.Node{clamp(0, -100, 100), clamp(1, -90, 120), clamp(2, -128, 5)}, Output: 3}
	for n, want := range map[int]api.Report{0: {Nodes: 3, Arena: 16}, 8: {Nodes: 3}, 2: {Nodes: 1, Fused: 2}} {
		_, r := look(t, chain, options(n), 5)
		if r.Nodes != want.Nodes || r.Fused != want.Fused || r.Arena != want.Arena {
			t.Error(n, r)
		}
	}
}

// P33.2: what lies in an image, byte by byte; values that are held on while another one takes over, or lies elsewhere.
func TestLaid(t *testing.T) {
	g := api.Graph{Input: [3]int{1, 1, 2}, Output: 1, Consts: []api.Const{{Bytes: []int8{1, -2}}, {Words: []int32{0x0a0b0c0d}}}, Nodes: []api.Node{{Op: api.NFull, M1: 1 << 30, S1: 24, Lo: -128, Hi: 127, Bias: 1, Chans: 1}}}
	for _, n := range []int{0, 16} {
		m, _ := look(t, g, options(n), 5)
		found := false
		for _, s := range m.Segs {
			found = found || bytes.Equal(s.Data, []byte{1, 0xfe, 0, 0, 0x0d, 0x0c, 0x0b, 0x0a})
		}
		if !found {
			t.Error("the constants are not there", n, m.Segs)
		}
	}
	clamp := func(a, hi int) api.Node { return api.Node{Op: api.NClamp, A: a, Lo: -hi, Hi: hi} }
	held := api.Graph{Input: [3]int{1, 1, 6}, Nodes: []api.Node{clamp(0, 100), clamp(1, 50), clamp(0, 10), clamp(3, 9), {Op: api.NConcat, A: 2, B: 4}}, Output: 5}
	for n := range 32 {
		look(t, held, options(n), 7)
	}
}

// P33.1: the errors, in their order.
func TestErrors(t *testing.T) {
	g := family.Net(9, 6)
	many := func(nodes, consts int) api.Graph {
		g := api.Graph{Input: [3]int{1, 1, 1}, Consts: make([]api.Const, consts)}
		for range nodes {
			g.Nodes = append(g.Nodes, api.Node{Op: api.NClamp, Hi: 1})
		}
		return g
	}
	_, r, err := mcc.Program(g, target, options(0))
	if err != api.OK {
		t.Fatal(err)
	}
	sized := func(flashSize, ramSize int) api.Target {
		return api.Target{Flash: flash, FlashSize: uint32(flashSize), RAM: ram, RAMSize: uint32(ramSize)}
	}
	up := func(n int) int { return (n + 3) &^ 3 }
	for i, x := range []struct {
		g   api.Graph
		t   api.Target
		o   api.Options
		err api.Errno
	}{
		{api.Graph{}, api.Target{}, options(0), api.ErrArg}, {g, sized(0, 64), options(0), api.ErrArg}, {api.Graph{}, target, options(0), api.ErrShape}, {api.Graph{Input: [3]int{65, 1, 1}}, target, options(0), api.ErrSize}, {api.Graph{Input: [3]int{1, 1, 1}, Output: 1}, target, options(0), api.ErrForm}, {api.Graph{Input: [3]int{1, 1, 1}, Nodes: []api.Node{{}}}, target, options(0), api.ErrUnsup}, {api.Graph{Input: [3]int{1, 1, 1}, Nodes: []api.Node{{Op: api.NClamp, Lo: 2}}}, target, options(0), api.ErrQuant},
		{many(40, 80), target, options(0), api.OK}, {many(41, 0), target, options(0), api.ErrUnsup}, {many(0, 81), sized(4, 4), options(0), api.ErrUnsup}, {append41(many(41, 0)), target, options(0), api.ErrQuant},
		{g, sized(up(r.Flash), r.RAM+16), options(0), api.OK}, {g, sized(up(r.Flash)-4, 1<<18), options(0), api.ErrFlash}, {g, sized(4, 4), options(0), api.ErrFlash}, {g, sized(1<<20, 16), options(0), api.ErrRAM}, {g, sized(up(r.Flash)-4, 16), options(0), api.ErrRAM},
		{g, sized(1<<20, up(r.RAM)-16), options(0), api.ErrRAM}, {api.Graph{Input: [3]int{64, 64, 4}}, sized(4, 1<<14), options(0), api.ErrRAM}, {api.Graph{Input: [3]int{64, 64, 4}}, sized(4, 1<<15), options(0), api.ErrFlash},
	} {
		m, r, err := mcc.Program(x.g, x.t, x.o)
		if err != x.err {
			t.Error(i, err, x.err)
		}
		if err != api.OK && (!reflect.DeepEqual(m, api.Image{}) || r != (api.Report{})) {
			t.Error(i, "with an error", m, r)
		}
	}
}

// append41 is a network of too many nodes, the last of which is not sound.
func append41(g api.Graph) api.Graph {
	g.Nodes[40].Lo = 99
	return g
}

// P33.4
func TestCompile(t *testing.T) {
	g := family.Net(11, 5)
	b, _ := graph.Write(g)
	kept := bytes.Clone(b)
	m, want, _ := mcc.Program(g, target, options(5))
	written, _ := image.Write(m)
	got, r, err := mcc.Compile(b, target, options(5))
	if !bytes.Equal(got, written) || r != want || err != api.OK || !bytes.Equal(b, kept) {
		t.Error(r, err)
	}
	for i, x := range []struct {
		b   []byte
		t   api.Target
		err api.Errno
	}{{nil, api.Target{}, api.ErrForm}, {b[:len(b)-1], target, api.ErrForm}, {append(bytes.Clone(b), 0), target, api.ErrForm}, {make([]byte, 1<<20+1), target, api.ErrForm}, {b, api.Target{}, api.ErrArg}, {b, api.Target{Flash: flash, FlashSize: 4, RAM: ram, RAMSize: 1 << 18}, api.ErrFlash}} {
		if got, r, err := mcc.Compile(x.b, x.t, options(0)); got != nil || r != (api.Report{}) || err != x.err {
			t.Error(i, err)
		}
	}
	wrong, _ := graph.Write(api.Graph{})
	if _, _, err := mcc.Compile(wrong, target, options(0)); err != api.ErrShape {
		t.Error(err)
	}
}

// P33.1, P33.5: as many nodes as there may be, each with many steps: with whatever options they are compiled.
func TestMany(t *testing.T) {
	const chans = 15
	g := api.Graph{Input: [3]int{3, 3, chans}, Output: api.MaxNodes, Consts: []api.Const{{}, {Words: make([]int32, chans)}}}
	seed := uint64(1)
	for range chans * 9 * chans {
		var n uint64
		seed, n = family.Random(seed)
		g.Consts[0].Bytes = append(g.Consts[0].Bytes, int8(n))
	}
	for i := range api.MaxNodes {
		g.Nodes = append(g.Nodes, api.Node{Op: api.NConv, A: i, K: [2]int{3, 3}, S: [2]int{1, 1}, Pad: [4]int{1, 1, 1, 1}, M1: 1 << 30, S1: 6, Lo: -128, Hi: 127, Bias: 1, Chans: chans})
	}
	x := family.Input(g, 3)
	want, _ := eval.Run(g, x)
	for _, n := range []int{0, 1} {
		m, _, err := mcc.Program(g, target, options(n))
		if err != api.OK {
			t.Fatal(n, err)
		}
		c, _ := load.Load(m)
		load.Input(c, m, toBytes(x))
		steps, trap := exec.Run(c, int(m.Fuel)+1)
		out, _ := load.Output(c, m)
		if trap != api.TrapBreak || uint64(steps) != m.Fuel || !bytes.Equal(out, toBytes(want)) {
			t.Error(n, trap, steps)
		}
	}
}

// P33.2: targets of all sorts.
func TestTargets(t *testing.T) {
	g := family.Net(21, 6)
	x := family.Input(g, 2)
	want, _ := eval.Run(g, x)
	for _, y := range []api.Target{{Flash: 0, FlashSize: 1 << 20, RAM: 1 << 20, RAMSize: 1 << 14}, {Flash: 1 << 20, FlashSize: 1 << 20, RAM: 4, RAMSize: 1<<14 + 4}, {Flash: 1<<32 - 1<<20, FlashSize: 1 << 20, RAM: 0x7ffffffc - 1<<12, RAMSize: 1 << 15}, {Flash: 0x7ffffffc, FlashSize: 1 << 17, RAM: 1<<32 - 1<<16, RAMSize: 1 << 16}} {
		for _, n := range []int{0, 31} {
			m, _, err := mcc.Program(g, y, options(n))
			if err != api.OK || !image.Valid(m) {
				t.Fatal(y, err)
			}
			if got, _ := watch(t, m, x); !bytes.Equal(got, toBytes(want)) {
				t.Error(y, got, want)
			}
		}
	}
}

// P33.6
func TestStraight(t *testing.T) {
	for seed := range uint64(10) {
		g := family.Net(seed, 8)
		m, _, err := mcc.Program(g, target, options(int(seed*3)%32))
		if err != api.OK {
			t.Fatal(err)
		}
		soft := false
		order, _ := sched.Order(g)
		for _, v := range order {
			soft = soft || g.Nodes[v-1].Op == api.NSoftmax
		}
		_, a := watch(t, m, family.Input(g, 1))
		_, b := watch(t, m, family.Input(g, 2))
		for i, e := range a {
			if e.PC != b[i].PC || !soft && e != b[i] {
				t.Fatal(seed, i, e, b[i])
			}
		}
	}
}

// P33.2, P33.4: the program's bytes, booted.
func TestBoot(t *testing.T) {
	g := family.Net(3, 6)
	b, _ := graph.Write(g)
	code, r, _ := mcc.Compile(b, target, options(1))
	c, m, err := load.Boot(code)
	x := family.Input(g, 8)
	load.Input(c, m, toBytes(x))
	n, trap := exec.Run(c, int(m.Fuel)+1)
	out, _ := load.Output(c, m)
	want, _ := eval.Run(g, x)
	if err != api.OK || trap != api.TrapBreak || uint64(n) != r.Fuel || !bytes.Equal(out, toBytes(want)) {
		t.Error(err, trap, n, r.Fuel)
	}
}
