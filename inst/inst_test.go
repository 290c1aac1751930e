package inst_test

import (
	"slices"
	"testing"

	"pintle/api"
	"pintle/inst"
)

// What an operation has: d, 1, 2 for registers, and the form of its number.
func has(op int) (string, int) {
	switch {
	case op <= api.Remu:
		return "d12", 0
	case op <= api.Lhu || op == api.Jalr:
		return "d1", api.FormI
	case op <= api.Sw:
		return "12", api.FormS
	case op <= api.Bgeu:
		return "12", api.FormB
	case op <= api.Auipc:
		return "d", api.FormU
	case op == api.Jal:
		return "d", api.FormJ
	case op == api.Fence:
		return "", api.FormI
	}
	return "", 0
}

func sample(op int) api.Ins {
	i := api.Ins{Op: op}
	regs, form := has(op)
	for _, r := range regs {
		switch r {
		case 'd':
			i.Rd = 21
		case '1':
			i.Rs1 = 10
		case '2':
			i.Rs2 = 31
		}
	}
	i.Imm = []int32{0, -1234, -77, -1234, 0x12345000, -123456}[form]
	if op >= api.Slli && op <= api.Srai {
		i.Imm = 19
	}
	return i
}

// P3.1, P3.2: one word of each operation, reckoned by hand from the architecture's tables.
func TestWords(t *testing.T) {
	for i, x := range []struct {
		i api.Ins
		w uint32
	}{
		{api.Ins{Op: api.Add, Rd: 1, Rs1: 2, Rs2: 3}, 0x003100b3},
		{api.Ins{Op: api.Sub, Rd: 1, Rs1: 2, Rs2: 3}, 0x403100b3},
		{api.Ins{Op: api.Sll, Rd: 1, Rs1: 2, Rs2: 3}, 0x003110b3},
		{api.Ins{Op: api.Slt, Rd: 1, Rs1: 2, Rs2: 3}, 0x003120b3},
		{api.Ins{Op: api.Sltu, Rd: 1, Rs1: 2, Rs2: 3}, 0x003130b3},
		{api.Ins{Op: api.Xor, Rd: 1, Rs1: 2, Rs2: 3}, 0x003140b3},
		{api.Ins{Op: api.Srl, Rd: 1, Rs1: 2, Rs2: 3}, 0x003150b3},
		{api.Ins{Op: api.Sra, Rd: 1, Rs1: 2, Rs2: 3}, 0x403150b3},
		{api.Ins{Op: api.Or, Rd: 1, Rs1: 2, Rs2: 3}, 0x003160b3},
		{api.Ins{Op: api.And, Rd: 1, Rs1: 2, Rs2: 3}, 0x003170b3},
		{api.Ins{Op: api.Mul, Rd: 1, Rs1: 2, Rs2: 3}, 0x023100b3},
		{api.Ins{Op: api.Mulh, Rd: 1, Rs1: 2, Rs2: 3}, 0x023110b3},
		{api.Ins{Op: api.Mulhsu, Rd: 1, Rs1: 2, Rs2: 3}, 0x023120b3},
		{api.Ins{Op: api.Mulhu, Rd: 1, Rs1: 2, Rs2: 3}, 0x023130b3},
		{api.Ins{Op: api.Div, Rd: 1, Rs1: 2, Rs2: 3}, 0x023140b3},
		{api.Ins{Op: api.Divu, Rd: 1, Rs1: 2, Rs2: 3}, 0x023150b3},
		{api.Ins{Op: api.Rem, Rd: 1, Rs1: 2, Rs2: 3}, 0x023160b3},
		{api.Ins{Op: api.Remu, Rd: 1, Rs1: 2, Rs2: 3}, 0x023170b3},
		{api.Ins{Op: api.Addi, Rd: 1, Rs1: 2, Imm: -3}, 0xffd10093},
		{api.Ins{Op: api.Slti, Rd: 1, Rs1: 2, Imm: 5}, 0x00512093},
		{api.Ins{Op: api.Sltiu, Rd: 1, Rs1: 2, Imm: 5}, 0x00513093},
		{api.Ins{Op: api.Xori, Rd: 1, Rs1: 2, Imm: 5}, 0x00514093},
		{api.Ins{Op: api.Ori, Rd: 1, Rs1: 2, Imm: 5}, 0x00516093},
		{api.Ins{Op: api.Andi, Rd: 1, Rs1: 2, Imm: 5}, 0x00517093},
		{api.Ins{Op: api.Slli, Rd: 1, Rs1: 2, Imm: 31}, 0x01f11093},
		{api.Ins{Op: api.Srli, Rd: 1, Rs1: 2, Imm: 31}, 0x01f15093},
		{api.Ins{Op: api.Srai, Rd: 1, Rs1: 2, Imm: 31}, 0x41f15093},
		{api.Ins{Op: api.Lb, Rd: 8, Rs1: 2, Imm: 12}, 0x00c10403},
		{api.Ins{Op: api.Lh, Rd: 8, Rs1: 2, Imm: 12}, 0x00c11403},
		{api.Ins{Op: api.Lw, Rd: 8, Rs1: 2, Imm: 12}, 0x00c12403},
		{api.Ins{Op: api.Lbu, Rd: 8, Rs1: 2, Imm: 12}, 0x00c14403},
		{api.Ins{Op: api.Lhu, Rd: 8, Rs1: 2, Imm: 12}, 0x00c15403},
		{api.Ins{Op: api.Sb, Rs1: 2, Rs2: 8, Imm: 12}, 0x00810623},
		{api.Ins{Op: api.Sh, Rs1: 2, Rs2: 8, Imm: 12}, 0x00811623},
		{api.Ins{Op: api.Sw, Rs1: 2, Rs2: 8, Imm: -4}, 0xfe812e23},
		{api.Ins{Op: api.Beq, Rs1: 5, Rs2: 6, Imm: 8}, 0x00628463},
		{api.Ins{Op: api.Bne, Rs1: 5, Imm: -8}, 0xfe029ce3},
		{api.Ins{Op: api.Blt, Rs1: 5, Rs2: 6, Imm: 8}, 0x0062c463},
		{api.Ins{Op: api.Bge, Rs1: 5, Rs2: 6, Imm: 8}, 0x0062d463},
		{api.Ins{Op: api.Bltu, Rs1: 5, Rs2: 6, Imm: 8}, 0x0062e463},
		{api.Ins{Op: api.Bgeu, Rs1: 5, Rs2: 6, Imm: 8}, 0x0062f463},
		{api.Ins{Op: api.Lui, Rd: 10, Imm: 0x12345000}, 0x12345537},
		{api.Ins{Op: api.Auipc, Rd: 10, Imm: -4096}, 0xfffff517},
		{api.Ins{Op: api.Jal, Rd: 1, Imm: -4}, 0xffdff0ef},
		{api.Ins{Op: api.Jalr, Rs1: 1}, 0x00008067},
		{api.Ins{Op: api.Fence, Imm: 255}, 0x0ff0000f},
		{api.Ins{Op: api.Ecall}, 0x00000073},
		{api.Ins{Op: api.Ebreak}, 0x00100073},
	} {
		if x.i.Op != i+1 {
			t.Fatal("the operations are not all there", i)
		}
		if w, ok := inst.Encode(x.i); w != x.w || !ok {
			t.Errorf("%v: %08x, not %08x", x.i, w, x.w)
		}
		if got, ok := inst.Decode(x.w); got != x.i || !ok {
			t.Errorf("%08x: %v, not %v", x.w, got, x.i)
		}
	}
}

// P3.1: what an operation does not have is 0; registers and numbers have bounds.
func TestCan(t *testing.T) {
	wrong := func(i api.Ins) {
		t.Helper()
		w, ok := inst.Encode(i)
		if inst.Can(i) || ok || w != 0 || len(inst.Reads(i)) != 0 || inst.Writes(i) != 0 {
			t.Error("can be", i)
		}
	}
	for op := api.Add; op <= api.Ops; op++ {
		x := sample(op)
		if !inst.Can(x) {
			t.Error("can't be", x)
		}
		regs, form := has(op)
		for _, r := range []struct {
			name rune
			set  func(i *api.Ins, n int)
		}{{'d', func(i *api.Ins, n int) { i.Rd = n }}, {'1', func(i *api.Ins, n int) { i.Rs1 = n }}, {'2', func(i *api.Ins, n int) { i.Rs2 = n }}} {
			allowed := slices.Contains([]rune(regs), r.name)
			for _, n := range []int{-1, 32, 1 << 32, -1 << 63, 0, 1, 31} {
				y := x
				r.set(&y, n)
				if n == 0 || allowed && (n == 1 || n == 31) {
					if !inst.Can(y) {
						t.Error("can't be", y)
					}
				} else {
					wrong(y)
				}
			}
		}
		lo, hi := []int32{0, -2048, -2048, -4096, -1 << 31, -1048576}[form], []int32{0, 2047, 2047, 4094, 1<<31 - 4096, 1048574}[form]
		if op >= api.Slli && op <= api.Srai {
			lo, hi = 0, 31
		}
		for _, n := range []int32{lo, hi} {
			y := x
			y.Imm = n
			if !inst.Can(y) {
				t.Error("can't be", y)
			}
		}
		for _, n := range []int32{lo - 1, hi + 1} {
			y := x
			y.Imm = n
			wrong(y)
		}
	}
	for _, op := range []int{0, -1, api.Ops + 1, 1 << 40} {
		wrong(api.Ins{Op: op})
	}
}

// P3.3
func TestReadsAndWrites(t *testing.T) {
	for op := api.Add; op <= api.Ops; op++ {
		x := sample(op)
		regs, _ := has(op)
		var want []int
		writes := 0
		for _, r := range regs {
			switch r {
			case 'd':
				writes = 21
			case '1':
				want = append(want, 10)
			case '2':
				want = append(want, 31)
			}
		}
		if got := inst.Reads(x); !slices.Equal(got, want) || inst.Writes(x) != writes {
			t.Error(x, got, inst.Writes(x))
		}
	}
	if got := inst.Reads(api.Ins{Op: api.Add, Rs1: 4, Rs2: 4}); !slices.Equal(got, []int{4, 4}) {
		t.Error(got)
	}
}

// P3.4
func TestThereAndBack(t *testing.T) {
	for op := api.Add; op <= api.Ops; op++ {
		x := sample(op)
		w, _ := inst.Encode(x)
		if y, ok := inst.Decode(w); x != y || !ok {
			t.Error(x, y)
		}
	}
	known := 0
	look := func(w uint32) {
		i, ok := inst.Decode(w)
		if !ok {
			if i != (api.Ins{}) {
				t.Errorf("%x: %v", w, i)
			}
			return
		}
		known++
		if back, ok := inst.Encode(i); back != w || !ok {
			t.Errorf("%x: %v: %x", w, i, back)
		}
	}
	for w := uint32(1); w < 1<<17; w++ {
		look(w)
		look(w * 2654435761)
		look(w<<15 | w&127)
	}
	if known < 10000 {
		t.Error("few words are known", known)
	}
}

// P3.2
func TestNoInstruction(t *testing.T) {
	for _, w := range []uint32{0, 1<<32 - 1, 0x00200073, 0x000000f3, 0x00001073, 0x403110b3, 0x043100b3, 0x02f11093, 0x41f11093, 0x81f15093, 0x00c13403, 0x00c16403, 0x00813623, 0x00000063 | 2<<12, 0x00000067 | 1<<12, 0x0ff0008f, 0x0ff0100f, 0x0ff0800f} {
		if i, ok := inst.Decode(w); ok || i != (api.Ins{}) {
			t.Errorf("%08x: %v", w, i)
		}
	}
}
