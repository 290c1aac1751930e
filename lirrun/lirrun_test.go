package lirrun_test

import (
	"bytes"
	"slices"
	"testing"

	"pintle/api"
	"pintle/lirrun"
	"pintle/mem"
	"pintle/num"
)

const (
	flash = 0x1000
	ram   = 0x2000
)

func memory() *mem.Memory {
	m, _ := mem.New(api.Target{Flash: flash, FlashSize: 16, RAM: ram, RAMSize: 32})
	m.Put(flash, []byte{1, 0x82, 3, 0x84, 5, 6, 7, 8})
	return m
}

var end = api.Lop{Op: api.LEnd}

func set(d int, n int32) api.Lop { return api.Lop{Op: api.LSet, D: d, Imm: n} }
func addi(d, a int, n int32) api.Lop {
	return api.Lop{Op: api.LAddi, D: d, A: a, Imm: n}
}
func loop(d int, n int32) api.Lop { return api.Lop{Op: api.LLoop, D: d, Imm: n} }

// run does a program that may be, with fuel enough.
func run(t *testing.T, m *mem.Memory, l ...api.Lop) ([]uint32, int, int) {
	t.Helper()
	vars, n, trap, err := lirrun.Run(l, m, 1<<40)
	if err != api.OK || len(vars) != api.MaxVars {
		t.Fatal(err, len(vars))
	}
	return vars, n, trap
}

// P16.1
func TestReckoning(t *testing.T) {
	ops := map[int]int{api.LAdd: api.Add, api.LSub: api.Sub, api.LMul: api.Mul, api.LMulh: api.Mulh, api.LAnd: api.And, api.LOr: api.Or, api.LXor: api.Xor, api.LSlt: api.Slt, api.LSltu: api.Sltu, api.LDivu: api.Divu}
	for op, alu := range ops {
		for _, a := range []int32{0, 7, -1, -1 << 31, 0x12345678} {
			for _, b := range []int32{0, 3, -1, -1 << 31} {
				vars, n, trap := run(t, nil, set(1, a), set(63, b), api.Lop{Op: op, D: 2, A: 1, B: 63})
				want, _ := num.Alu(alu, uint32(a), uint32(b))
				if vars[2] != want || vars[1] != uint32(a) || vars[63] != uint32(b) || n != 3 || trap != api.TrapNone {
					t.Error(op, a, b, vars[2])
				}
			}
		}
	}
	for i, x := range []struct {
		l    api.Lop
		want uint32
	}{
		{set(0, -7), 1<<32 - 7}, {api.Lop{Op: api.LMove, A: 1}, 0x80000005}, {addi(0, 1, 1<<31-1), 4}, {api.Lop{Op: api.LShl, A: 1, Imm: 4}, 0x50}, {api.Lop{Op: api.LShr, A: 1, Imm: 31}, 1}, {api.Lop{Op: api.LSar, A: 1, Imm: 31}, 1<<32 - 1}, {api.Lop{Op: api.LSar, A: 1}, 0x80000005}, {addi(0, 2, 3), 3},
		{api.Lop{Op: api.LLoad8, A: 3, Imm: 1}, 0xffffff82}, {api.Lop{Op: api.LLoad8u, A: 3, Imm: 1}, 0x82}, {api.Lop{Op: api.LLoad16, A: 3, Imm: 2}, 0xffff8403}, {api.Lop{Op: api.LLoad32, A: 3}, 0x84038201}, {api.Lop{Op: api.LLoad8, A: 2, Imm: flash}, 1}, {api.Lop{Op: api.LLoad32, A: 4, Imm: -4}, 0x84038201},
	} {
		vars, n, trap := run(t, memory(), set(1, -1<<31+5), set(3, flash), set(4, flash+4), x.l)
		if vars[0] != x.want || n != 4 || trap != api.TrapNone {
			t.Error(i, vars[0], n, trap)
		}
	}
	m := memory()
	run(t, m, set(1, ram), set(2, -0x1020304), api.Lop{Op: api.LStore8, A: 1, B: 2, Imm: 5}, api.Lop{Op: api.LStore32, A: 1, B: 2, Imm: 8})
	if b, _ := m.Get(ram+4, 9); !bytes.Equal(b, []byte{0, 0xfc, 0, 0, 0xfc, 0xfc, 0xfd, 0xfe, 0}) {
		t.Error(b)
	}
}

// P16.2, P16.4
func TestLoops(t *testing.T) {
	vars, n, trap := run(t, nil, loop(1, 3), addi(0, 0, 5), end)
	if vars[0] != 15 || vars[1] != 0 || n != 7 || trap != api.TrapNone {
		t.Error(vars, n, trap)
	}
	// The counter is Imm, then one less; behind the loop 0.
	sum := []api.Lop{loop(1, 4), {Op: api.LAdd, D: 2, A: 2, B: 1}, loop(3, 2), {Op: api.LShl, D: 4, A: 4, Imm: 1}, {Op: api.LAdd, D: 4, A: 4, B: 3}, end, end}
	vars, n, _ = run(t, nil, sum...)
	want := uint32(0)
	for range 4 {
		want = (want*2+2)*2 + 1
	}
	if vars[2] != 10 || vars[3] != 0 || vars[4] != want || n != 1+4*(1+1+2*3+1) {
		t.Error(vars, n)
	}
	for fuel := range n + 3 {
		_, done, trap, err := lirrun.Run(sum, nil, fuel)
		if done != min(fuel, n) || trap != api.TrapNone || err != api.OK {
			t.Error(fuel, done, trap, err)
		}
	}
	_, n, _ = run(t, nil, loop(1, 100000), end)
	if n != 100001 {
		t.Error(n)
	}
}

// P16.3
func TestRun(t *testing.T) {
	for _, fuel := range []int{-1, -1 << 63, 0} {
		vars, n, trap, err := lirrun.Run([]api.Lop{set(0, 5)}, nil, fuel)
		if !slices.Equal(vars, make([]uint32, 64)) || n != 0 || trap != api.TrapNone || err != api.OK {
			t.Error(fuel, vars, n, trap, err)
		}
	}
	if vars, n, trap := run(t, nil); !slices.Equal(vars, make([]uint32, 64)) || n != 0 || trap != 0 {
		t.Error(vars, n, trap)
	}
	for i, x := range []struct {
		l    api.Lop
		trap int
	}{
		{api.Lop{Op: api.LLoad32, D: 1, A: 1, Imm: 2}, api.TrapAlign}, {api.Lop{Op: api.LLoad16, D: 1, A: 1, Imm: 1}, api.TrapAlign}, {api.Lop{Op: api.LLoad8, D: 1, A: 1, Imm: 16}, api.TrapLoad}, {api.Lop{Op: api.LLoad8u, D: 1, A: 0, Imm: -1}, api.TrapLoad},
		{api.Lop{Op: api.LStore8, A: 1, B: 1}, api.TrapStore}, {api.Lop{Op: api.LStore32, A: 1, B: 1}, api.TrapStore}, {api.Lop{Op: api.LStore32, A: 1, B: 1, Imm: 1}, api.TrapAlign},
	} {
		m := memory()
		vars, n, trap := run(t, m, set(1, flash), loop(5, 9), addi(2, 2, 1), x.l, end, set(3, 1))
		if trap != x.trap || n != 3 || vars[1] != flash || vars[2] != 1 || vars[3] != 0 || vars[5] != 9 {
			t.Error(i, vars, n, trap)
		}
		if b, _ := m.Get(ram, 32); !bytes.Equal(b, make([]byte, 32)) {
			t.Error(i, b)
		}
	}
	if _, n, trap := run(t, nil, api.Lop{Op: api.LLoad32, Imm: 1}); n != 0 || trap != api.TrapLoad {
		t.Error("no memory", n, trap)
	}
	for i, x := range []struct {
		l   []api.Lop
		err api.Errno
	}{{[]api.Lop{{}}, api.ErrArg}, {[]api.Lop{end}, api.ErrForm}, {make([]api.Lop, 20001), api.ErrLong}} {
		if vars, n, trap, err := lirrun.Run(x.l, memory(), 5); vars != nil || n != 0 || trap != 0 || err != x.err {
			t.Error(i, vars, n, trap, err)
		}
	}
}
