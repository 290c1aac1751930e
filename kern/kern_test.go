package kern_test

import (
	"bytes"
	"slices"
	"testing"

	"pintle/api"
	"pintle/asm"
	"pintle/cost"
	"pintle/cpu"
	"pintle/emit"
	"pintle/eval"
	"pintle/family"
	"pintle/infer"
	"pintle/kern"
	"pintle/lir"
	"pintle/lirrun"
	"pintle/mem"
)

const (
	flash = 0x10000
	ram   = 0x20000000
)

// part is a list of bytes at a place.
type part struct {
	at    uint32
	bytes []byte
}

// scene is a job with all that it reads, and what it is to make.
type scene struct {
	job  api.Job
	in   []part
	want []byte
}

func toBytes(l []int8) []byte {
	var b []byte
	for _, n := range l {
		b = append(b, byte(n))
	}
	return b
}

func toWords(l []int32) []byte {
	var b []byte
	for _, n := range l {
		b = append(b, byte(n), byte(n>>8), byte(n>>16), byte(n>>24))
	}
	return b
}

// sceneOf makes a job of a network's last node, which reads the input, and perhaps a constant. Inputs and output lie in
// RAM one behind the other, without a byte between; the constants at flash's very end.
func sceneOf(t *testing.T, g api.Graph, seed uint64, wide bool) scene {
	t.Helper()
	shapes, err := infer.Shapes(g)
	if err != api.OK {
		t.Fatal(err)
	}
	n := g.Nodes[len(g.Nodes)-1]
	values, _ := eval.Values(g, family.Input(g, seed))
	s := scene{job: api.Job{Node: n, A: shapes[n.A], Out: shapes[g.Output], Wide: wide}, want: toBytes(values[g.Output])}
	at := uint32(ram + seed%5)
	put := func(b []byte) uint32 {
		s.in = append(s.in, part{at, b})
		at += uint32(len(b))
		return at - uint32(len(b))
	}
	s.job.AtA = put(toBytes(values[n.A]))
	if len(infer.Inputs(n)) > 1 {
		s.job.B = shapes[n.B]
		s.job.AtB = put(toBytes(values[n.B]))
	}
	s.job.AtOut = at
	top := uint32(flash + 1<<18)
	atEnd := func(b []byte, by uint32) uint32 {
		top = (top - uint32(len(b))) / by * by
		s.in = append(s.in, part{top, b})
		return top
	}
	switch n.Op {
	case api.NConv, api.NDepth, api.NFull:
		s.job.AtW = atEnd(toBytes(g.Consts[n.W].Bytes), 1)
		s.job.AtBias = atEnd(toWords(g.Consts[n.Bias].Words), 4)
	case api.NSoftmax:
		s.job.AtW = atEnd(toWords(g.Consts[n.W].Words), 4)
	}
	return s
}

func (s scene) memory(t *testing.T) *mem.Memory {
	t.Helper()
	m, _ := mem.New(api.Target{Flash: flash, FlashSize: 1 << 18, RAM: ram, RAMSize: 1 << 17})
	full := bytes.Repeat([]byte{0x5a}, 1<<17)
	m.Put(ram, full)
	for _, p := range s.in {
		if !m.Put(p.at, p.bytes) {
			t.Fatal("no room")
		}
	}
	return m
}

// look runs a job's steps; it tells how many, and that no byte but the output's is another one.
func (s scene) look(t *testing.T) int {
	t.Helper()
	l, ok := kern.Code(s.job)
	if !ok || lir.Check(l) != api.OK {
		t.Fatal("no code", s.job, lir.Check(l))
	}
	m := s.memory(t)
	want, _ := m.Get(ram, 1<<17)
	copy(want[s.job.AtOut-ram:], s.want)
	_, steps, trap, err := lirrun.Run(l, m, 1<<40)
	got, _ := m.Get(ram, 1<<17)
	if trap != api.TrapNone || err != api.OK {
		t.Fatal("trap", trap, err, s.job)
	}
	if !bytes.Equal(got, want) {
		t.Fatal("other bytes", s.job, got[s.job.AtOut-ram:][:len(s.want)], s.want)
	}
	return steps
}

// cost tells how many steps a machine needs for a job.
func (s scene) cost(t *testing.T) uint64 {
	t.Helper()
	l, _ := kern.Code(s.job)
	n, err := cost.Steps(l)
	if err != api.OK {
		t.Fatal(err)
	}
	return n
}

// watch runs a job's steps on a machine, and looks at each place that it goes to.
func (s scene) watch(t *testing.T) {
	t.Helper()
	l, _ := kern.Code(s.job)
	items, frame, _ := emit.Program(l)
	words, err := asm.Words(flash, items)
	if err != api.OK {
		t.Fatal(err)
	}
	m := s.memory(t)
	m.Put(flash, toWords(signed(words)))
	const stack = ram + 1<<17
	c := cpu.New(m, flash)
	c.Set(2, stack)
	for {
		e, trap := c.Step()
		if trap == api.TrapBreak {
			return
		}
		if trap != api.TrapNone {
			t.Fatal(trap)
		}
		within := func(at uint32, n int) bool { return e.Addr >= at && e.Addr+uint32(e.Size) <= at+uint32(n) }
		ok := e.Kind == api.DidNone || within(stack-uint32(frame), frame)
		if e.Kind == api.DidStore {
			ok = ok || within(s.job.AtOut, len(s.want))
		}
		for _, p := range s.in {
			ok = ok || e.Kind == api.DidLoad && within(p.at, len(p.bytes))
		}
		if !ok {
			t.Fatal("goes elsewhere", e, s.job)
		}
	}
}

func signed(l []uint32) []int32 {
	var out []int32
	for _, w := range l {
		out = append(out, int32(w))
	}
	return out
}

// P32.1, P32.2, P32.4
func TestCode(t *testing.T) {
	for op := api.NConv; op <= api.NOps; op++ {
		for seed := range uint64(120) {
			g, _ := family.One(op, seed)
			plain, wide := sceneOf(t, g, seed, false), sceneOf(t, g, seed, true)
			if few, many := wide.look(t), plain.look(t); few > many {
				t.Error("wide does more", op, seed, few, many)
			}
			if few, many := wide.cost(t), plain.cost(t); few > many {
				t.Error("wide needs more", op, seed, few, many)
			}
			if seed < 25 {
				plain.watch(t)
				wide.watch(t)
			}
		}
	}
}

// P32.2: great kernels, pads on all sides, and strides, with which no tap lies over the input as a whole.
func TestWindows(t *testing.T) {
	seed := uint64(1)
	next := func(n int) int {
		var x uint64
		seed, x = family.Random(seed)
		return int(x % uint64(n))
	}
	for range 150 {
		n := api.Node{Op: []int{api.NConv, api.NDepth, api.NMaxPool, api.NAvgPool}[next(4)]}
		g := api.Graph{Input: [3]int{1 + next(9), 1 + next(9), 1 + next(3)}, Output: 1}
		for i := range 2 {
			n.K[i], n.S[i] = 1+next(8), 1+next(8)
			n.Pad[i], n.Pad[i+2] = next(n.K[i]), next(n.K[i])
		}
		kernel := n.K[0] * n.K[1] * g.Input[2]
		if n.Op == api.NConv || n.Op == api.NDepth {
			n.Bias, n.M1, n.S1, n.Lo, n.Hi, n.Za = 1, int32(next(1<<31)), next(12), -128, 127, next(256)-128
			bias := g.Input[2]
			if n.Op == api.NConv {
				n.Chans = 1 + next(3)
				kernel *= n.Chans
				bias = n.Chans
			}
			g.Consts = []api.Const{{}, {}}
			for range kernel {
				g.Consts[0].Bytes = append(g.Consts[0].Bytes, int8(next(256)))
			}
			for range bias {
				g.Consts[1].Words = append(g.Consts[1].Words, int32(next(1<<29+1)-1<<28))
			}
		}
		g.Nodes = []api.Node{n}
		if _, err := infer.Shapes(g); err != api.OK {
			continue
		}
		wide, plain := sceneOf(t, g, seed, true), sceneOf(t, g, seed, false)
		if wide.look(t) > plain.look(t) || wide.cost(t) > plain.cost(t) {
			t.Error("wide does more", n)
		}
		wide.watch(t)
		plain.watch(t)
	}
}

// P32.2: the greatest numbers that a node may come to.
func TestGreatest(t *testing.T) {
	for _, w := range []int8{-128, 127} {
		for _, bias := range []int32{-1 << 28, 1 << 28} {
			for _, za := range []int{-128, 127} {
				g := api.Graph{Input: [3]int{8, 8, 64}, Output: 1, Consts: []api.Const{{Bytes: slices.Repeat([]int8{w}, 4096)}, {Words: []int32{bias}}}}
				n := api.Node{Op: api.NFull, Za: za, M1: 1<<31 - 1, Zo: -za - 1, Lo: -128, Hi: 127, Bias: 1, Chans: 1}
				for range 2 {
					g.Nodes = []api.Node{n}
					s := sceneOf(t, g, 3, true)
					s.look(t)
					for i := range s.in[0].bytes {
						s.in[0].bytes[i] = byte(-za - 1)
					}
					x := make([]int8, 4096)
					for i := range x {
						x[i] = int8(-za - 1)
					}
					out, _ := eval.Run(g, x)
					s.want = toBytes(out)
					s.look(t)
					n.Op, n.K, n.S = api.NConv, [2]int{8, 8}, [2]int{1, 1}
				}
			}
		}
	}
}

// P32.2: the output may lie where an input lies, of some nodes.
func TestOver(t *testing.T) {
	for _, op := range []int{api.NClamp, api.NReshape, api.NAdd, api.NMul} {
		for seed := range uint64(40) {
			g, _ := family.One(op, seed)
			for _, wide := range []bool{false, true} {
				s := sceneOf(t, g, seed, wide)
				s.job.AtOut = s.job.AtA
				s.look(t)
				if op == api.NAdd || op == api.NMul {
					s.job.AtOut = s.job.AtB
					s.look(t)
				}
			}
		}
	}
}

// P32.1
func TestMayNot(t *testing.T) {
	wrong := func(what string, j api.Job) {
		t.Helper()
		if l, ok := kern.Code(j); ok || len(l) > 0 {
			t.Error(what, j)
		}
	}
	for op := api.NConv; op <= api.NOps; op++ {
		g, _ := family.One(op, 2)
		j := sceneOf(t, g, 2, false).job
		change := func(what string, f func(j *api.Job)) {
			t.Helper()
			x := j
			f(&x)
			wrong(what, x)
		}
		good := func(what string, f func(j *api.Job)) {
			t.Helper()
			x := j
			f(&x)
			if _, ok := kern.Code(x); !ok {
				t.Error(what, x)
			}
		}
		for _, n := range []int{0, 1, -1, 15} {
			change("operator", func(j *api.Job) { j.Node.Op = n })
		}
		change("shape", func(j *api.Job) { j.A[0] = 0 })
		change("shape", func(j *api.Job) { j.A[2] = 1 << 62 })
		change("output", func(j *api.Job) { j.Out[1]++ })
		change("output", func(j *api.Job) { j.Out = [3]int{} })
		change("bounds", func(j *api.Job) { j.Node.Lo, j.Node.Hi = 5, 4 })
		change("shift", func(j *api.Job) { j.Node.S1 = 32 })
		change("multiplier", func(j *api.Job) { j.Node.M2 = -1 })
		change("zero", func(j *api.Job) { j.Node.Za = 128 })
		change("channels", func(j *api.Job) { j.Node.Chans = -1 })
		change("channels", func(j *api.Job) { j.Node.Chans = 1 << 62 })
		change("kernel", func(j *api.Job) { j.Node.K[1] = 1 << 62 })
		change("pad", func(j *api.Job) { j.Node.Pad[1] = 8 })
		good("input", func(j *api.Job) { j.Node.A = 77 })
		two := len(infer.Inputs(j.Node)) > 1
		if two {
			good("second input", func(j *api.Job) { j.Node.B = 77 })
			change("second shape", func(j *api.Job) { j.B = [3]int{} })
			change("second shape", func(j *api.Job) { j.B[0]++ })
		} else {
			change("second shape", func(j *api.Job) { j.B = [3]int{1, 1, 1} })
			change("second input", func(j *api.Job) { j.Node.B = 1 })
		}
		switch op {
		case api.NConv, api.NDepth, api.NFull:
			good("constants", func(j *api.Job) { j.Node.W, j.Node.Bias = -5, 99 })
			good("weights' place", func(j *api.Job) { j.AtW++ })
			change("bias's place", func(j *api.Job) { j.AtBias++ })
		case api.NSoftmax:
			good("table", func(j *api.Job) { j.Node.W = 99 })
			change("table's place", func(j *api.Job) { j.AtW += 2 })
		default:
			change("constants", func(j *api.Job) { j.Node.W = 1 })
			good("places", func(j *api.Job) { j.AtW, j.AtBias = 1, 1 })
		}
	}
}

// P32.3, P32.4
func TestCopy(t *testing.T) {
	for _, n := range []int{-1 << 63, -1, 0} {
		if l := kern.Copy(flash, ram, n, true); len(l) != 0 {
			t.Error(n, l)
		}
	}
	for _, n := range []int{1, 3, 4, 7, 8, 9, 33, 1000, api.MaxElems} {
		for _, x := range [][2]uint32{{flash, ram}, {flash + 1, ram}, {flash + 8, ram + 3}, {ram + 40000, ram + 4}, {ram + 8, ram + 8}, {flash + 1<<18 - uint32(n), ram + 1<<17 - uint32(n)}} {
			steps := map[bool]int{}
			for _, wide := range []bool{false, true} {
				l := kern.Copy(x[0], x[1], n, wide)
				m := scene{}.memory(t)
				fill := make([]byte, 1<<18)
				for i := range fill {
					fill[i] = byte(i*7 + i>>8)
				}
				m.Put(flash, fill)
				m.Put(ram+1000, fill[:1<<17-1000])
				from, _ := m.Get(x[0], n)
				want, _ := m.Get(ram, 1<<17)
				copy(want[x[1]-ram:], from)
				_, many, trap, err := lirrun.Run(l, m, 1<<40)
				got, _ := m.Get(ram, 1<<17)
				if !bytes.Equal(got, want) || trap != api.TrapNone || err != api.OK {
					t.Fatal(n, x, wide, trap, err)
				}
				steps[wide] = many
			}
			if steps[true] > steps[false] {
				t.Error(n, x, steps)
			}
		}
	}
}

// P32.2: the steps hang on the job alone, and few enough of them that forty nodes fit into a program.
func TestFew(t *testing.T) {
	most := 0
	for op := api.NConv; op <= api.NOps; op++ {
		for seed := range uint64(60) {
			g, _ := family.One(op, seed)
			j := sceneOf(t, g, seed, true).job
			a, _ := kern.Code(j)
			b, _ := kern.Code(j)
			if !slices.Equal(a, b) {
				t.Error(op, seed)
			}
			most = max(most, len(a))
		}
	}
	if most*api.MaxNodes > api.MaxLops {
		t.Error("a node has many steps", most)
	}
}
