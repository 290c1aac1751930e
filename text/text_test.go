package text_test

import (
	"strings"
	"testing"

	"pintle/api"
	"pintle/inst"
	"pintle/text"
)

const all = "add sub sll slt sltu xor srl sra or and mul mulh mulhsu mulhu div divu rem remu addi slti sltiu xori ori andi slli srli srai lb lh lw lbu lhu sb sh sw beq bne blt bge bltu bgeu lui auipc jal jalr fence ecall ebreak"

// P4.1
func TestName(t *testing.T) {
	for i, name := range strings.Fields(all) {
		if got := text.Name(i + 1); got != name {
			t.Error(i, got)
		}
	}
	for _, op := range []int{0, -1, api.Ops + 1, 1 << 50, -1 << 63} {
		if got := text.Name(op); got != "" {
			t.Error(op, got)
		}
	}
}

var shown = []struct {
	s string
	i api.Ins
}{
	{"lw x8, 12(x2)", api.Ins{Op: api.Lw, Rd: 8, Rs1: 2, Imm: 12}},
	{"lui x10, 74565", api.Ins{Op: api.Lui, Rd: 10, Imm: 0x12345000}},
	{"lui x0, 1048575", api.Ins{Op: api.Lui, Imm: -4096}},
	{"auipc x31, 524288", api.Ins{Op: api.Auipc, Rd: 31, Imm: -1 << 31}},
	{"bne x5, x0, -8", api.Ins{Op: api.Bne, Rs1: 5, Imm: -8}},
	{"bgeu x5, x31, 4094", api.Ins{Op: api.Bgeu, Rs1: 5, Rs2: 31, Imm: 4094}},
	{"add x1, x2, x3", api.Ins{Op: api.Add, Rd: 1, Rs1: 2, Rs2: 3}},
	{"remu x31, x30, x29", api.Ins{Op: api.Remu, Rd: 31, Rs1: 30, Rs2: 29}},
	{"addi x1, x2, -3", api.Ins{Op: api.Addi, Rd: 1, Rs1: 2, Imm: -3}},
	{"srai x1, x2, 31", api.Ins{Op: api.Srai, Rd: 1, Rs1: 2, Imm: 31}},
	{"lbu x1, -2048(x0)", api.Ins{Op: api.Lbu, Rd: 1, Imm: -2048}},
	{"jalr x1, -4(x5)", api.Ins{Op: api.Jalr, Rd: 1, Rs1: 5, Imm: -4}},
	{"sw x7, 2047(x2)", api.Ins{Op: api.Sw, Rs1: 2, Rs2: 7, Imm: 2047}},
	{"jal x0, -1048576", api.Ins{Op: api.Jal, Imm: -1048576}},
	{"fence 255", api.Ins{Op: api.Fence, Imm: 255}},
	{"ecall", api.Ins{Op: api.Ecall}},
	{"ebreak", api.Ins{Op: api.Ebreak}},
}

// P4.2, P4.3
func TestShowAndParse(t *testing.T) {
	for _, x := range shown {
		if got := text.Show(x.i); got != x.s {
			t.Errorf("%q, not %q", got, x.s)
		}
		if got, ok := text.Parse(x.s); got != x.i || !ok {
			t.Errorf("%q: %v %v", x.s, got, ok)
		}
	}
	for _, i := range []api.Ins{{}, {Op: 49}, {Op: api.Add, Rd: 32}, {Op: api.Addi, Imm: 2048}, {Op: api.Lui, Imm: 1}, {Op: api.Ecall, Rd: 1}, {Op: -5}} {
		if got := text.Show(i); got != "" {
			t.Errorf("%v: %q", i, got)
		}
	}
}

// P4.3: what is no instruction's text.
func TestParseWrong(t *testing.T) {
	for _, s := range []string{
		"", " ", "add", "add ", "add x1, x2", "add x1, x2, x3 ", " add x1, x2, x3", "add  x1, x2, x3", "add x1,x2, x3", "add x1, x2,  x3", "add x1, x2, x3, x4", "Add x1, x2, x3", "ADD x1, x2, x3",
		"add x01, x2, x3", "add x1, x2, x32", "add x1, x2, 3", "add x1, x2, xx3", "add x1, x2, x+3", "addi x1, x2, +3", "addi x1, x2, 03", "addi x1, x2, -0", "addi x1, x2, 2048", "addi x1, x2, 4294967299", "addi x1, x2, 99999999999999999999",
		"addi x1, x2, x3", "slli x1, x2, 32", "lw x8, 12(x2", "lw x8, 12x2)", "lw x8, (x2)", "lw x8, 12(x2))", "lw x8, 12 (x2)", "lw x8, 12(2)", "lui x10, -1", "lui x10, 1048576", "bne x5, x0, 3", "jal x0", "ecall ", "ecall 0", "fence", "fence x0", "mv x1, x2",
		"lw x8, 12(x2)\n", strings.Repeat("add ", 100), "addi x1, x2, \xff", "-", "x1", ".word", "add x1, x2, x-0",
	} {
		if i, ok := text.Parse(s); ok || i != (api.Ins{}) {
			t.Errorf("%q: %v", s, i)
		}
	}
}

// P4.4
func TestThereAndBack(t *testing.T) {
	seen := map[string]uint32{}
	for n := uint32(1); n < 300000; n++ {
		w := n * 2654435761
		i, ok := inst.Decode(w)
		if !ok {
			continue
		}
		s := text.Show(i)
		if back, ok := text.Parse(s); back != i || !ok {
			t.Fatalf("%q: %v %v", s, back, ok)
		}
		if other, there := seen[s]; there {
			t.Fatalf("%x and %x are both %q", other, w, s)
		}
		seen[s] = w
	}
	if len(seen) < 10000 {
		t.Error("few are looked at", len(seen))
	}
}
