package cpu_test

import (
	"bytes"
	"testing"

	"pintle/api"
	"pintle/cpu"
	"pintle/inst"
	"pintle/mem"
	"pintle/num"
)

var target = api.Target{Flash: 0x1000, FlashSize: 64, RAM: 0x2000, RAMSize: 64}

// machine has instructions at flash's beginning.
func machine(t *testing.T, l ...api.Ins) *cpu.Machine {
	t.Helper()
	m, err := mem.New(target)
	if err != api.OK {
		t.Fatal(err)
	}
	for n, i := range l {
		w, ok := inst.Encode(i)
		if !ok {
			t.Fatal("can't be", i)
		}
		lay(m, 0x1000+uint32(4*n), w)
	}
	return cpu.New(m, 0x1000)
}

func lay(m *mem.Memory, addr, w uint32) {
	m.Put(addr, []byte{byte(w), byte(w >> 8), byte(w >> 16), byte(w >> 24)})
}

// all is what can be seen of a machine.
type all struct {
	pc   uint32
	regs [32]uint32
	ram  string
	rom  string
}

func look(c *cpu.Machine) all {
	x := all{pc: c.PC()}
	for i := range 32 {
		x.regs[i] = c.Reg(i)
	}
	a, _ := c.Memory().Get(target.RAM, 64)
	b, _ := c.Memory().Get(target.Flash, 64)
	x.ram, x.rom = string(a), string(b)
	return x
}

// P6.1
func TestMachine(t *testing.T) {
	if cpu.New(nil, 4) != nil {
		t.Error("over no memory")
	}
	c := machine(t)
	if c.PC() != 0x1000 || c.Memory().Target() != target {
		t.Error(c.PC())
	}
	for i := -1; i < 40; i++ {
		if c.Reg(i) != 0 {
			t.Error(i)
		}
		c.Set(i, uint32(i+100))
	}
	for i := -1; i < 40; i++ {
		want := uint32(i + 100)
		if i < 1 || i > 31 {
			want = 0
		}
		if c.Reg(i) != want {
			t.Error(i, c.Reg(i))
		}
	}
	c.Set(1<<40, 1)
	c.Set(-1<<63, 1)
	var none *cpu.Machine
	none.Set(1, 1)
	if e, trap := none.Step(); none.PC() != 0 || none.Reg(1) != 0 || none.Memory() != nil || e != (api.Event{}) || trap != api.TrapFetch {
		t.Error("nil", e, trap)
	}
	new(cpu.Machine).Step()
}

const (
	minus = uint32(1<<32 - 1)
	low   = uint32(1 << 31)
)

// P6.2: what is reckoned with registers and numbers.
func TestReckoning(t *testing.T) {
	for op := api.Add; op <= api.Remu; op++ {
		for _, a := range []uint32{0, 7, minus, low, 0x12345678} {
			for _, b := range []uint32{0, 3, minus, low, 35} {
				c := machine(t, api.Ins{Op: op, Rd: 5, Rs1: 6, Rs2: 7})
				c.Set(6, a)
				c.Set(7, b)
				e, trap := c.Step()
				if w, _ := num.Alu(op, a, b); trap != api.TrapNone || c.Reg(5) != w || c.PC() != 0x1004 || e.Kind != api.DidNone || e.PC != 0x1000 {
					t.Error(op, a, b, c.Reg(5), e, trap)
				}
			}
		}
	}
	for i, x := range []struct {
		op   int
		a    uint32
		n    int32
		want uint32
	}{
		{api.Addi, 2, -3, minus}, {api.Addi, minus, 1, 0}, {api.Slti, minus, 0, 1}, {api.Slti, 3, -1, 0}, {api.Sltiu, 3, -1, 1}, {api.Sltiu, minus, 0, 0}, {api.Xori, 6, -1, minus - 6}, {api.Ori, 6, 9, 15}, {api.Andi, 0xabcdef, -16, 0xabcde0},
		{api.Slli, 3, 31, low}, {api.Srli, low, 31, 1}, {api.Srai, low, 31, minus},
	} {
		c := machine(t, api.Ins{Op: x.op, Rd: 5, Rs1: 6, Imm: x.n})
		c.Set(6, x.a)
		if e, trap := c.Step(); trap != api.TrapNone || c.Reg(5) != x.want || e.Kind != api.DidNone || c.PC() != 0x1004 {
			t.Error(i, c.Reg(5), e, trap)
		}
	}
	c := machine(t, api.Ins{Op: api.Lui, Rd: 1, Imm: -4096}, api.Ins{Op: api.Auipc, Rd: 2, Imm: 4096}, api.Ins{Op: api.Fence, Imm: 15}, api.Ins{Op: api.Addi, Imm: 7})
	for range 4 {
		c.Step()
	}
	if c.Reg(1) != minus-4095 || c.Reg(2) != 0x2004 || c.PC() != 0x1010 || c.Reg(0) != 0 {
		t.Error(look(c))
	}
}

// P6.2: loads and stores.
func TestLoadsAndStores(t *testing.T) {
	for i, x := range []struct {
		op   int
		at   uint32
		n    int32
		want uint32
		size int
		trap int
	}{
		{api.Lb, 0x2000, 3, 0xffffff84, 1, 0}, {api.Lbu, 0x2000, 3, 0x84, 1, 0}, {api.Lb, 0x2001, -1, 1, 1, 0}, {api.Lh, 0x2000, 2, 0xffff8483, 2, 0}, {api.Lhu, 0x2000, 2, 0x8483, 2, 0}, {api.Lw, 0x2000, 0, 0x84838201, 4, 0}, {api.Lw, 0x1ff8, 8, 0x84838201, 4, 0},
		{api.Lw, 0x2000, 2, 0, 0, api.TrapAlign}, {api.Lh, 0x2000, 1, 0, 0, api.TrapAlign}, {api.Lw, 0x2040, 0, 0, 0, api.TrapLoad}, {api.Lb, 0, -1, 0, 0, api.TrapLoad},
	} {
		c := machine(t, api.Ins{Op: x.op, Rd: 5, Rs1: 6, Imm: x.n})
		lay(c.Memory(), 0x2000, 0x84838201)
		c.Set(5, 77)
		c.Set(6, x.at)
		before := look(c)
		e, trap := c.Step()
		word, _ := c.Memory().Fetch(0x1000)
		want := api.Event{PC: 0x1000, Word: word}
		if x.trap == 0 {
			want.Kind, want.Addr, want.Size = api.DidLoad, x.at+uint32(x.n), x.size
			before.pc, before.regs[5] = 0x1004, x.want
		}
		if trap != x.trap || e != want || look(c) != before {
			t.Error(i, e, trap, c.Reg(5))
		}
	}
	for i, x := range []struct {
		op   int
		at   uint32
		n    int32
		want []byte
		trap int
	}{
		{api.Sb, 0x2000, 1, []byte{0, 0xdd, 0, 0, 0, 0}, 0}, {api.Sh, 0x2004, -2, []byte{0, 0, 0xdd, 0xcc, 0, 0}, 0}, {api.Sw, 0x2000, 0, []byte{0xdd, 0xcc, 0xbb, 0xaa, 0, 0}, 0},
		{api.Sw, 0x2001, 0, make([]byte, 6), api.TrapAlign}, {api.Sh, 0x2001, 0, make([]byte, 6), api.TrapAlign}, {api.Sw, 0x1000, 0, make([]byte, 6), api.TrapStore}, {api.Sb, 0x2040, 0, make([]byte, 6), api.TrapStore},
	} {
		c := machine(t, api.Ins{Op: x.op, Rs1: 6, Rs2: 7, Imm: x.n})
		c.Set(6, x.at)
		c.Set(7, 0xaabbccdd)
		before := look(c)
		e, trap := c.Step()
		got, _ := c.Memory().Get(0x2000, 6)
		if trap != x.trap || !bytes.Equal(got, x.want) {
			t.Error(i, e, trap, got)
		}
		word, _ := c.Memory().Fetch(0x1000)
		want := api.Event{PC: 0x1000, Word: word}
		if trap == 0 {
			want.Kind, want.Addr, want.Size = api.DidStore, x.at+uint32(x.n), len(bytes.Trim(x.want, "\x00"))
			if c.PC() != 0x1004 {
				t.Error(i, c.PC())
			}
		} else if look(c) != before {
			t.Error(i, "changed")
		}
		if e != want {
			t.Error(i, e)
		}
	}
}

// P6.2: where the pc goes.
func TestBranches(t *testing.T) {
	for _, a := range []uint32{0, 1, minus, low} {
		for _, b := range []uint32{0, 1, minus, low} {
			for op, is := range map[int]bool{api.Beq: a == b, api.Bne: a != b, api.Blt: int32(a) < int32(b), api.Bge: int32(a) >= int32(b), api.Bltu: a < b, api.Bgeu: a >= b} {
				for _, n := range []int32{-8, 8, 0, 4094} {
					c := machine(t, api.Ins{Op: op, Rs1: 6, Rs2: 7, Imm: n})
					c.Set(6, a)
					c.Set(7, b)
					pc, want := uint32(0x1004), api.TrapNone
					if is {
						pc = 0x1000 + uint32(n)
					}
					if pc%4 != 0 {
						pc, want = 0x1000, api.TrapAlign
					}
					if e, trap := c.Step(); trap != want || c.PC() != pc || e.Kind != 0 || e.Word == 0 {
						t.Error(op, a, b, n, c.PC(), e, trap)
					}
				}
			}
		}
	}
	for i, x := range []struct {
		i        api.Ins
		at       uint32
		pc, link uint32
		trap     int
	}{
		{api.Ins{Op: api.Jal, Rd: 1, Imm: -16}, 0, 0xff0, 0x1004, 0}, {api.Ins{Op: api.Jal, Rd: 1, Imm: 6}, 0, 0x1000, 0, api.TrapAlign}, {api.Ins{Op: api.Jalr, Rd: 1, Rs1: 6, Imm: 5}, 0x2000, 0x2004, 0x1004, 0}, {api.Ins{Op: api.Jalr, Rd: 1, Rs1: 6, Imm: 2}, 0x2000, 0x1000, 0, api.TrapAlign}, {api.Ins{Op: api.Jalr, Rd: 1, Rs1: 6, Imm: 3}, 0x2000, 0x1000, 0, api.TrapAlign}, {api.Ins{Op: api.Jalr, Rs1: 6, Imm: 1}, minus, 0, 0, 0},
	} {
		c := machine(t, x.i)
		c.Set(6, x.at)
		if e, trap := c.Step(); trap != x.trap || c.PC() != x.pc || c.Reg(1) != x.link || c.Reg(0) != 0 || e.Kind != 0 {
			t.Error(i, e, trap, c.PC(), c.Reg(1))
		}
	}
	c := machine(t, api.Ins{Op: api.Jalr, Rd: 6, Rs1: 6, Imm: 4})
	c.Set(6, 0x2000)
	if c.Step(); c.PC() != 0x2004 || c.Reg(6) != 0x1004 {
		t.Error("rs1 is not read first", c.PC(), c.Reg(6))
	}
}

// P6.2: traps of the fetch, and of words that do nothing.
func TestTraps(t *testing.T) {
	m, _ := mem.New(target)
	for i, x := range []struct {
		pc   uint32
		word uint32
		trap int
	}{{0x1002, 0, api.TrapAlign}, {0x1040, 0, api.TrapFetch}, {0, 0, api.TrapFetch}, {0x1000, 0, api.TrapIllegal}, {0x1004, 0x73, api.TrapCall}, {0x1008, 0x100073, api.TrapBreak}, {0x2000, 0xffffffff, api.TrapIllegal}} {
		if x.word != 0 {
			lay(m, x.pc, x.word)
		}
		c := cpu.New(m, x.pc)
		c.Set(3, 5)
		before := look(c)
		if e, trap := c.Step(); trap != x.trap || e != (api.Event{PC: x.pc, Word: x.word}) || look(c) != before {
			t.Error(i, e, trap)
		}
	}
}

// P6.3
func TestNoFurther(t *testing.T) {
	seed := uint32(1)
	next := func() uint32 { seed = seed*1664525 + 1013904223; return seed >> 4 }
	done := 0
	for range 20000 {
		var i api.Ins
		for ok := false; !ok; {
			code := []uint32{0x33, 0x13, 3, 0x23, 0x63, 0x37, 0x17, 0x6f, 0x67}[next()%9]
			i, ok = inst.Decode((next()<<7^next())&^127 | code)
		}
		c := machine(t, i)
		for r := 1; r < 32; r++ {
			c.Set(r, 0x2000+next()%64)
		}
		before := look(c)
		e, trap := c.Step()
		after := look(c)
		if trap == api.TrapNone {
			done++
			before.pc = after.pc
			if rd := inst.Writes(i); rd != 0 {
				before.regs[rd] = after.regs[rd]
			}
			if e.Kind == api.DidStore {
				from := e.Addr - 0x2000
				before.ram = before.ram[:from] + after.ram[from:from+uint32(e.Size)] + before.ram[from+uint32(e.Size):]
			}
		}
		if before != after {
			t.Fatal(i, e, trap)
		}
	}
	if done < 5000 {
		t.Error("few steps were done", done)
	}
}
