package emit_test

import (
	"bytes"
	"slices"
	"testing"

	"pintle/alloc"
	"pintle/api"
	"pintle/asm"
	"pintle/cpu"
	"pintle/emit"
	"pintle/lir"
	"pintle/lirrun"
	"pintle/mem"
	"pintle/relax"
)

const (
	flash   = 0x10000
	ram     = 0x20000000
	ramSize = 1024
	top     = ram + ramSize - 12 // a multiple of four alone
	data    = 256                // bytes that programs go to
)

var end = api.Lop{Op: api.LEnd}

func set(d int, n int32) api.Lop  { return api.Lop{Op: api.LSet, D: d, Imm: n} }
func loop(d int, n int32) api.Lop { return api.Lop{Op: api.LLoop, D: d, Imm: n} }

func memory(t *testing.T) *mem.Memory {
	t.Helper()
	m, err := mem.New(api.Target{Flash: flash, FlashSize: 1 << 19, RAM: ram, RAMSize: ramSize})
	if err != api.OK {
		t.Fatal(err)
	}
	b := make([]byte, ramSize)
	for i := range b {
		b[i] = byte(i*37 + 11)
	}
	m.Put(ram, b)
	return m
}

// machine has a loop program's words laid, and all registers but x2 full of something.
func machine(t *testing.T, l []api.Lop) (*cpu.Machine, int) {
	t.Helper()
	items, frame, err := emit.Program(l)
	if err != api.OK {
		t.Fatal(err)
	}
	words, err := asm.Words(flash, items)
	if err != api.OK {
		t.Fatal(err)
	}
	m := memory(t)
	for i, w := range words {
		m.Put(flash+uint32(4*i), []byte{byte(w), byte(w >> 8), byte(w >> 16), byte(w >> 24)})
	}
	c := cpu.New(m, flash)
	for r := range 32 {
		c.Set(r, 0xdead0000+uint32(r))
	}
	c.Set(2, top)
	return c, frame
}

// hold runs a program both ways and holds them against one another; it tells the machine's steps.
func hold(t *testing.T, l []api.Lop) int {
	t.Helper()
	m := memory(t)
	vars, _, want, err := lirrun.Run(l, m, 1<<40)
	if err != api.OK {
		t.Fatal(err)
	}
	c, frame := machine(t, l)
	steps := 0
	for {
		e, trap := c.Step()
		if trap != api.TrapNone {
			if want == api.TrapNone {
				want = api.TrapBreak
			}
			if trap != want {
				t.Fatal("trap", trap, want)
			}
			break
		}
		steps++
		if e.Kind != api.DidNone && e.Addr >= ram+data && (e.Addr < top-uint32(frame) || e.Addr+uint32(e.Size) > top || e.Size != 4) {
			t.Fatal("goes elsewhere", e)
		}
	}
	got, _ := c.Memory().Get(ram, ramSize)
	wanted, _ := m.Get(ram, ramSize)
	below := top - frame - ram
	if !bytes.Equal(got[:below], wanted[:below]) || !bytes.Equal(got[top-ram:], wanted[top-ram:]) {
		t.Fatal("other bytes")
	}
	for _, r := range []int{1, 3, 4, 25, 26, 27} {
		if c.Reg(r) != 0xdead0000+uint32(r) {
			t.Fatal("uses register", r)
		}
	}
	if want != api.TrapBreak {
		return steps
	}
	if c.Reg(2) != top-uint32(frame) {
		t.Fatal("x2", c.Reg(2))
	}
	homes, slots, _ := alloc.Homes(l)
	if frame != emit.Frame(slots) {
		t.Fatal("frame", frame)
	}
	for _, v := range lir.Vars(l) {
		w := c.Reg(homes[v].Reg)
		if homes[v].Reg == 0 {
			w, _ = c.Memory().Load(c.Reg(2)+uint32(4*homes[v].Slot), 4)
		}
		if w != vars[v] {
			t.Fatalf("variable %d is %x, not %x", v, w, vars[v])
		}
	}
	return steps
}

// P18.1
func TestFrame(t *testing.T) {
	for _, x := range [][2]int{{-1 << 63, 0}, {-1, 0}, {0, 0}, {1, 16}, {4, 16}, {5, 32}, {8, 32}, {9, 48}, {44, 176}} {
		if got := emit.Frame(x[0]); got != x[1] {
			t.Error(x, got)
		}
	}
}

// P18.2: the errors, and the least program.
func TestErrors(t *testing.T) {
	items, frame, err := emit.Program(nil)
	if !slices.Equal(items, []api.Item{{Kind: api.ItemIns, Ins: api.Ins{Op: api.Ebreak}}}) || frame != 0 || err != api.OK {
		t.Error(items, frame, err)
	}
	for i, x := range []struct {
		l   []api.Lop
		err api.Errno
	}{{[]api.Lop{{}}, api.ErrArg}, {[]api.Lop{end}, api.ErrForm}, {make([]api.Lop, 20001), api.ErrLong}} {
		if items, frame, err := emit.Program(x.l); items != nil || frame != 0 || err != x.err {
			t.Error(i, err)
		}
	}
}

// maker makes loop programs by chance, without traps as far as it can.
type maker struct {
	seed uint32
	vars int
	out  []api.Lop
	busy map[int]bool
}

func (k *maker) next(n int) int {
	k.seed = k.seed*1664525 + 1013904223
	return int(k.seed>>8) % n
}

func (k *maker) number() int32 {
	switch k.next(4) {
	case 0:
		return int32(k.next(100) - 50)
	case 1:
		return []int32{2047, 2048, -2048, -2049, 4096, 1<<31 - 1, -1 << 31, 0}[k.next(8)]
	}
	return int32(k.next(1<<24)*257 - 1<<30)
}

func (k *maker) free() int {
	for {
		if d := k.next(k.vars); !k.busy[d] {
			return d
		}
	}
}

func (k *maker) steps(n, depth int) {
	for range n {
		d, a, b := k.free(), k.next(k.vars), k.next(k.vars)
		switch k.next(9) {
		case 0:
			k.out = append(k.out, set(d, k.number()))
		case 1:
			k.out = append(k.out, api.Lop{Op: api.LMove, D: d, A: a})
		case 2, 3:
			k.out = append(k.out, api.Lop{Op: api.LAdd + k.next(10), D: d, A: a, B: b})
		case 4:
			k.out = append(k.out, api.Lop{Op: api.LAddi, D: d, A: a, Imm: k.number()})
		case 5:
			k.out = append(k.out, api.Lop{Op: api.LShl + k.next(3), D: d, A: a, Imm: int32(k.next(32))})
		case 6, 7:
			k.access(d, b)
		case 8:
			if depth > 0 {
				k.out = append(k.out, loop(d, int32(1+k.next(4))))
				k.busy[d] = true
				k.steps(4, depth-1)
				delete(k.busy, d)
				k.out = append(k.out, end)
			}
		}
	}
}

// access goes to a place of the first bytes of RAM, by a small number or by a great one.
func (k *maker) access(d, b int) {
	op := api.LLoad8 + k.next(6)
	at := int32(ram + k.next(data/4)*4)
	near := int32(k.next(3000)&^3 - 1500)
	k.out = append(k.out, set(d, at-near))
	x := api.Lop{Op: op, A: d, Imm: near}
	if op >= api.LStore8 {
		x.B = b
	} else {
		x.D = d
	}
	k.out = append(k.out, x)
}

func program(seed uint32, vars int) []api.Lop {
	k := &maker{seed: seed, vars: vars, busy: map[int]bool{}}
	k.steps(40, 3)
	return k.out
}

// P18.2, P18.3
func TestProgram(t *testing.T) {
	for seed := range uint32(150) {
		for _, vars := range []int{8, 21, 30, 64} {
			hold(t, program(seed, vars))
		}
	}
	// Variables are 0 first, in registers and in slots.
	var l []api.Lop
	for v := range 64 {
		l = append(l, api.Lop{Op: api.LAddi, D: v, A: v, Imm: int32(v)})
	}
	hold(t, l)
	// Numbers about the greatest ones that loads and stores have, and no sum of them with what lies on.
	for _, n := range []int32{-2050, -2049, -2048, -2047, 2046, 2047, 2048, 2049, 4095, 4096, -4096, -1 << 31} {
		for op := api.LLoad8; op <= api.LStore32; op++ {
			x := api.Lop{Op: op, A: 1, Imm: n}
			if op >= api.LStore8 {
				x.B = 2
			}
			hold(t, []api.Lop{set(1, ram+8-n), set(2, -77), x})
			hold(t, []api.Lop{set(1, ram+8-n), set(2, -77), {Op: api.LAddi, D: 3, A: 1, Imm: n}, x})
		}
	}
	// A loop that is longer than a branch reaches.
	for _, many := range []int{500, 1020, 1023, 1024, 3000, 9000} {
		l := append([]api.Lop{loop(0, 3)}, slices.Repeat([]api.Lop{{Op: api.LAddi, D: 1, A: 1, Imm: 1}, {Op: api.LAddi, D: 2, A: 1, Imm: 5000}}, many)...)
		hold(t, append(l, end))
	}
}

// P18.2: traps.
func TestTraps(t *testing.T) {
	for _, spread := range []int{0, 40} {
		var first []api.Lop
		for v := range spread {
			first = append(first, set(v, 7), set(v, 8))
		}
		for _, x := range []api.Lop{
			{Op: api.LLoad32, D: 63, A: 62, Imm: 2}, {Op: api.LLoad16, D: 63, A: 62, Imm: 1}, {Op: api.LLoad8, D: 63, A: 62, Imm: -1}, {Op: api.LLoad8u, D: 63, A: 62, Imm: 1 << 30}, {Op: api.LLoad32, D: 63, A: 62, Imm: ramSize},
			{Op: api.LStore32, A: 62, B: 62, Imm: 2}, {Op: api.LStore8, A: 62, B: 62, Imm: -5000}, {Op: api.LStore32, A: 62, B: 62, Imm: flash - ram},
		} {
			hold(t, append(slices.Clone(first), set(62, ram), api.Lop{Op: api.LStore8, A: 62, B: 62, Imm: 9}, x, api.Lop{Op: api.LStore8, A: 62, B: 62, Imm: 10}))
		}
	}
}

// P18.2: how many items and instructions a step has at most, and what they use.
func TestBounds(t *testing.T) {
	var fill []api.Lop
	for v := range 64 {
		fill = append(fill, set(v, 1), set(v, 1))
	}
	base, _, _ := emit.Program(fill)
	where, _, _ := relax.Layout(base)
	for op := api.LSet; op < api.LLoop; op++ {
		for _, v := range []int{0, 63} {
			for _, n := range []int32{0, 5, 1<<31 - 1} {
				x := api.Lop{Op: op, D: v, A: v, B: v, Imm: n}
				for _, change := range []func(){func() {}, func() { x.Imm = 0 }, func() { x.B = 0 }, func() { x.A = 0 }, func() { x.D, x.A, x.B = 0, v, v }} {
					change()
					if lir.Check([]api.Lop{x}) == api.OK {
						break
					}
				}
				items, _, err := emit.Program(append(slices.Clone(fill), x))
				if err != api.OK {
					continue
				}
				at, _, _ := relax.Layout(items)
				if len(items)-len(base) > 20 || at[len(items)]-where[len(base)] > 80 {
					t.Error(x, len(items)-len(base))
				}
			}
		}
	}
	for seed := range uint32(30) {
		items, _, _ := emit.Program(program(seed, 64))
		for _, x := range items {
			for _, r := range []int{x.Ins.Rd, x.Ins.Rs1, x.Ins.Rs2} {
				if r == 1 || r == 3 || r == 4 || r >= 25 && r <= 27 {
					t.Error("uses", x)
				}
			}
		}
		if last := items[len(items)-1]; last.Kind != api.ItemIns || last.Ins != (api.Ins{Op: api.Ebreak}) {
			t.Error(last)
		}
	}
}

// P18.4
func TestStraight(t *testing.T) {
	for seed := range uint32(20) {
		l := program(seed, 30)
		a, _, _ := emit.Program(l)
		b, _, _ := emit.Program(slices.Clone(l))
		if !slices.Equal(a, b) {
			t.Error(seed)
		}
		steps := hold(t, l)
		c, _ := machine(t, l)
		// Other bytes in RAM: the same steps.
		c.Memory().Put(ram, make([]byte, data))
		pc := []uint32{}
		for {
			pc = append(pc, c.PC())
			if _, trap := c.Step(); trap != api.TrapNone {
				break
			}
		}
		if len(pc)-1 != steps {
			t.Error(seed, len(pc), steps)
		}
	}
}
