package pseudo_test

import (
	"slices"
	"testing"

	"pintle/api"
	"pintle/cpu"
	"pintle/inst"
	"pintle/mem"
	"pintle/pseudo"
)

var numbers = []int32{0, 1, -1, 5, 2047, 2048, -2048, -2049, 4095, 4096, 4097, 6143, 6144, -4096, -4097, 1 << 30, 1<<31 - 1, 1<<31 - 2048, 1<<31 - 2049, -1 << 31, -1<<31 + 1, -1<<31 + 2047, -1<<31 + 2048, 0x12345678, -0x12345678}

// done does instructions with each register its own number times 1000 first, and tells what the registers are.
func done(t *testing.T, l []api.Ins) [32]uint32 {
	t.Helper()
	m, _ := mem.New(api.Target{Flash: 0, FlashSize: 64, RAM: 64, RAMSize: 64})
	for n, i := range l {
		w, ok := inst.Encode(i)
		if !ok {
			t.Fatal("can't be", i)
		}
		m.Put(uint32(4*n), []byte{byte(w), byte(w >> 8), byte(w >> 16), byte(w >> 24)})
	}
	c := cpu.New(m, 0)
	for r := range 32 {
		c.Set(r, uint32(r*1000))
	}
	for range l {
		if e, trap := c.Step(); trap != api.TrapNone || e.Kind != api.DidNone {
			t.Fatal(e, trap)
		}
	}
	var regs [32]uint32
	for r := range 32 {
		regs[r] = c.Reg(r)
	}
	return regs
}

// P12.1, P12.4
func TestSet(t *testing.T) {
	addi := func(rd, rs int, n int32) api.Ins { return api.Ins{Op: api.Addi, Rd: rd, Rs1: rs, Imm: n} }
	lui := func(rd int, n int32) api.Ins { return api.Ins{Op: api.Lui, Rd: rd, Imm: n} }
	for i, x := range []struct {
		rd   int
		n    int32
		want []api.Ins
	}{
		{5, 4096, []api.Ins{lui(5, 4096)}}, {5, 2048, []api.Ins{lui(5, 4096), addi(5, 5, -2048)}}, {5, 2047, []api.Ins{addi(5, 0, 2047)}}, {31, -2048, []api.Ins{addi(31, 0, -2048)}}, {1, -2049, []api.Ins{lui(1, -4096), addi(1, 1, 2047)}},
		{5, 1<<31 - 1, []api.Ins{lui(5, -1<<31), addi(5, 5, -1)}}, {5, -1 << 31, []api.Ins{lui(5, -1<<31)}}, {5, 0, []api.Ins{addi(5, 0, 0)}},
		{0, 5, nil}, {32, 5, nil}, {-1, 5, nil}, {1 << 40, 5000, nil},
	} {
		if got := pseudo.Set(x.rd, x.n); !slices.Equal(got, x.want) {
			t.Error(i, got)
		}
	}
	for _, n := range numbers {
		for _, rd := range []int{1, 7, 31} {
			want := done(t, nil)
			want[rd] = uint32(n)
			l := pseudo.Set(rd, n)
			if got := done(t, l); got != want {
				t.Error(rd, n, got)
			}
			// One Addi or one Lui alone sets just these numbers.
			least := 2
			if n >= -2048 && n <= 2047 || n&4095 == 0 {
				least = 1
			}
			if len(l) != least {
				t.Error(rd, n, l)
			}
		}
	}
}

// P12.1
func TestMove(t *testing.T) {
	if got := pseudo.Move(3, 31); got != (api.Ins{Op: api.Addi, Rd: 3, Rs1: 31}) {
		t.Error(got)
	}
	if got := pseudo.Move(0, 0); got != (api.Ins{Op: api.Addi}) {
		t.Error(got)
	}
	for _, x := range [][2]int{{32, 1}, {1, 32}, {-1, 1}, {1, -1}} {
		if got := pseudo.Move(x[0], x[1]); got != (api.Ins{}) {
			t.Error(x, got)
		}
	}
}

// P12.2
func TestTurn(t *testing.T) {
	pairs := map[int]int{api.Beq: api.Bne, api.Blt: api.Bge, api.Bltu: api.Bgeu}
	for op := -2; op < api.Ops+3; op++ {
		want := pairs[op]
		for a, b := range pairs {
			if b == op {
				want = a
			}
		}
		if got := pseudo.Turn(op); got != want {
			t.Error(op, got)
		}
	}
}

// P12.3
func TestAdd(t *testing.T) {
	for _, n := range numbers {
		for _, x := range [][3]int{{5, 6, 7}, {5, 5, 7}, {5, 0, 7}, {7, 6, 7}, {5, 6, 5}} {
			rd, rs, by := x[0], x[1], x[2]
			l := pseudo.Add(rd, rs, n, by)
			want := done(t, nil)
			short := n >= -2048 && n <= 2047
			if !short {
				want[by] = uint32(n)
			}
			want[rd] = uint32(rs*1000) + uint32(n)
			if got := done(t, l); got != want {
				t.Error(x, n, l)
			}
			steps := len(pseudo.Set(by, n)) + 1
			if short {
				steps = 1
			}
			if n == 0 && rd == rs {
				steps = 0
			}
			if len(l) != steps {
				t.Error(x, n, l)
			}
		}
	}
	for _, x := range [][3]int{{0, 1, 2}, {32, 1, 2}, {-1, 1, 2}, {1, 32, 2}, {1, -1, 2}, {1, 2, 32}, {1, 2, -1}, {1, 2, 0}, {1, 2, 2}, {2, 2, 2}, {1, 0, 0}} {
		for _, n := range []int32{0, 5, 5000} {
			if l := pseudo.Add(x[0], x[1], n, x[2]); len(l) != 0 {
				t.Error(x, n, l)
			}
		}
	}
}
