package asm_test

import (
	"slices"
	"testing"

	"pintle/api"
	"pintle/asm"
	"pintle/cpu"
	"pintle/inst"
	"pintle/mem"
	"pintle/pseudo"
	"pintle/relax"
)

var nop = api.Item{Kind: api.ItemIns, Ins: api.Ins{Op: api.Addi}}

func label(n int) api.Item { return api.Item{Kind: api.ItemLabel, Label: n} }
func branch(op, n int) api.Item {
	return api.Item{Kind: api.ItemBranch, Ins: api.Ins{Op: op, Rs1: 5, Rs2: 6}, Label: n}
}
func jump(n int) api.Item {
	return api.Item{Kind: api.ItemJump, Ins: api.Ins{Op: api.Jal}, Label: n}
}
func set(rd int, n int32) api.Item {
	return api.Item{Kind: api.ItemSet, Ins: api.Ins{Rd: rd, Imm: n}}
}

func words(t *testing.T, base uint32, l []api.Item) []uint32 {
	t.Helper()
	w, err := asm.Words(base, l)
	if err != api.OK {
		t.Fatal(err)
	}
	return w
}

// P14.1
func TestWords(t *testing.T) {
	if w := words(t, 0, []api.Item{label(1), nop, jump(1)}); !slices.Equal(w, []uint32{0x00000013, 0xffdff06f}) {
		t.Errorf("%x", w)
	}
	if w := words(t, 4, nil); len(w) != 0 {
		t.Error(w)
	}
	near := []api.Item{branch(api.Beq, 7), set(5, 0x12345fff), label(7), {Kind: api.ItemJump, Ins: api.Ins{Op: api.Jal, Rd: 1}, Label: 7}, {Kind: api.ItemIns, Ins: api.Ins{Op: api.Beq, Imm: -8}, Label: 7}}
	if w := words(t, 0x1000, near); !slices.Equal(w, []uint32{0x00628663, 0x123462b7, 0xfff28293, 0x000000ef, 0xfe000ce3}) {
		t.Errorf("%x", w)
	}
	for op := api.Beq; op <= api.Bgeu; op++ {
		far := slices.Concat([]api.Item{branch(op, 1)}, slices.Repeat([]api.Item{nop}, 2000), []api.Item{label(1)})
		w := words(t, 0, far)
		first, _ := inst.Decode(w[0])
		second, _ := inst.Decode(w[1])
		if len(w) != 2002 || first != (api.Ins{Op: pseudo.Turn(op), Rs1: 5, Rs2: 6, Imm: 8}) || second != (api.Ins{Op: api.Jal, Imm: 8004}) {
			t.Error(op, len(w), first, second)
		}
	}
	back := slices.Concat([]api.Item{label(1)}, slices.Repeat([]api.Item{nop}, 2000), []api.Item{branch(api.Blt, 1)})
	w := words(t, 0, back)
	if i, _ := inst.Decode(w[2001]); i != (api.Ins{Op: api.Jal, Imm: -8004}) {
		t.Error(i)
	}
}

// P14.1, P14.2: the errors.
func TestErrors(t *testing.T) {
	for i, x := range []struct {
		base  uint32
		l     []api.Item
		label int
		err   api.Errno
	}{
		{1, []api.Item{{}}, 0, api.ErrArg}, {2, []api.Item{label(0)}, 0, api.ErrArg}, {0, []api.Item{{}}, 0, api.ErrArg}, {0, []api.Item{label(0), label(0)}, 0, api.ErrName}, {0, []api.Item{jump(0)}, 0, api.ErrName},
		{0, make([]api.Item, api.MaxItems+1), 0, api.ErrLong}, {4, slices.Concat([]api.Item{jump(0)}, slices.Repeat([]api.Item{set(5, 5000)}, 1<<17), []api.Item{label(0)}), 0, api.ErrFar},
	} {
		if w, err := asm.Words(x.base, x.l); w != nil || err != x.err {
			t.Error(i, err)
		}
		if at, err := asm.Where(x.base, x.l, x.label); at != 0 || err != x.err {
			t.Error(i, at, err)
		}
	}
}

// P14.2
func TestWhere(t *testing.T) {
	l := []api.Item{nop, label(5), set(5, 5000), label(-9), nop, label(1 << 40)}
	for _, x := range []struct {
		base  uint32
		label int
		want  uint32
		err   api.Errno
	}{{0x1000, 5, 0x1004, api.OK}, {0x1000, -9, 0x100c, api.OK}, {0x1000, 1 << 40, 0x1010, api.OK}, {0xfffffffc, 5, 0, api.OK}, {0xfffffffc, -9, 8, api.OK}, {0, 4, 0, api.ErrName}, {0, 0, 0, api.ErrName}, {0, 1<<40 + 1, 0, api.ErrName}} {
		if at, err := asm.Where(x.base, l, x.label); at != x.want || err != x.err {
			t.Error(x, at, err)
		}
	}
}

// mixed has near and far branches, both ways.
func mixed() []api.Item {
	var l []api.Item
	for i := range 40 {
		l = append(l, label(i), set(7, int32(i*300)), branch(api.Beq+i%6, (i*17+3)%40), jump((i*7+1)%40))
		l = append(l, slices.Repeat([]api.Item{nop}, 60)...)
	}
	return l
}

// P14.3
func TestAllThere(t *testing.T) {
	l := mixed()
	where, _, _ := relax.Layout(l)
	w := words(t, 0, l)
	if len(w)*4 != where[len(l)] {
		t.Error(len(w), where[len(l)])
	}
	for i, x := range w {
		if _, ok := inst.Decode(x); !ok {
			t.Error(i, x)
		}
	}
}

// P14.4
func TestGoesThere(t *testing.T) {
	l := mixed()
	where, far, _ := relax.Layout(l)
	const base = 0x4000
	w := words(t, base, l)
	m, _ := mem.New(api.Target{Flash: base, FlashSize: uint32(4 * len(w)), RAM: 0, RAMSize: 4})
	for i, x := range w {
		m.Put(base+uint32(4*i), []byte{byte(x), byte(x >> 8), byte(x >> 16), byte(x >> 24)})
	}
	near, away := 0, 0
	for i, x := range l {
		if x.Kind != api.ItemBranch && x.Kind != api.ItemJump {
			continue
		}
		at, err := asm.Where(base, l, x.Label)
		if err != api.OK {
			t.Fatal(err)
		}
		for _, regs := range [][2]uint32{{1, 1}, {1, 2}, {1<<32 - 1, 1}, {1, 1<<32 - 1}} {
			c := cpu.New(m, base+uint32(where[i]))
			c.Set(5, regs[0])
			c.Set(6, regs[1])
			a, b := int32(regs[0]), int32(regs[1])
			taken := map[int]bool{api.Jal: true, api.Beq: a == b, api.Bne: a != b, api.Blt: a < b, api.Bge: a >= b, api.Bltu: regs[0] < regs[1], api.Bgeu: regs[0] >= regs[1]}[x.Ins.Op]
			want := base + uint32(where[i+1])
			if taken {
				want = at
			}
			c.Step()
			if far[i] && taken {
				c.Step()
				away++
			} else {
				near++
			}
			if c.PC() != want {
				t.Error(i, x, c.PC(), want)
			}
		}
	}
	if near == 0 || away == 0 {
		t.Error(near, away)
	}
}
