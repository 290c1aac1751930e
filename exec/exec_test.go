package exec_test

import (
	"slices"
	"testing"

	"pintle/api"
	"pintle/cpu"
	"pintle/exec"
	"pintle/inst"
	"pintle/mem"
)

// machine has instructions at 0; without an Ebreak it runs into words that are none.
func machine(t *testing.T, l ...api.Ins) *cpu.Machine {
	t.Helper()
	m, _ := mem.New(api.Target{Flash: 0, FlashSize: 64, RAM: 64, RAMSize: 64})
	for n, i := range l {
		w, ok := inst.Encode(i)
		if !ok || !m.Put(uint32(4*n), []byte{byte(w), byte(w >> 8), byte(w >> 16), byte(w >> 24)}) {
			t.Fatal(i)
		}
	}
	return cpu.New(m, 0)
}

func addi(rd, rs int, n int32) api.Ins { return api.Ins{Op: api.Addi, Rd: rd, Rs1: rs, Imm: n} }

var stop = api.Ins{Op: api.Ebreak}

// program stores, loads, and goes round for ever.
var program = []api.Ins{addi(1, 0, 64), {Op: api.Sw, Rs1: 1, Rs2: 2, Imm: 4}, addi(2, 2, 1), {Op: api.Lb, Rd: 3, Rs1: 1, Imm: 4}, {Op: api.Jal, Imm: -12}}

// P7.1
func TestRun(t *testing.T) {
	for i, x := range []struct {
		fuel, n, trap int
	}{{9, 2, api.TrapBreak}, {3, 2, api.TrapBreak}, {2, 2, api.TrapNone}, {1, 1, api.TrapNone}, {0, 0, api.TrapNone}, {-1, 0, api.TrapNone}, {-1 << 63, 0, api.TrapNone}, {1<<63 - 1, 2, api.TrapBreak}} {
		c := machine(t, addi(1, 0, 5), addi(1, 1, 5), stop)
		if n, trap := exec.Run(c, x.fuel); n != x.n || trap != x.trap {
			t.Error(i, n, trap)
		}
		if c.Reg(1) != uint32(5*x.n) || c.PC() != uint32(4*x.n) {
			t.Error(i, c.Reg(1), c.PC())
		}
	}
	if n, trap := exec.Run(machine(t, addi(1, 0, 5)), 9); n != 1 || trap != api.TrapIllegal {
		t.Error(n, trap)
	}
	for _, x := range [][2]int{{1, api.TrapFetch}, {0, api.TrapNone}, {-5, api.TrapNone}} {
		if n, trap := exec.Run(nil, x[0]); n != 0 || trap != x[1] {
			t.Error("nil", x, n, trap)
		}
	}
	if n, trap := exec.Run(machine(t, program...), 250000); n != 250000 || trap != api.TrapNone {
		t.Error("Run ends at a trace's length", n, trap)
	}
}

// P7.2
func TestTrace(t *testing.T) {
	for _, fuel := range []int{-3, 0, 1, 2, 3, 17} {
		var want []api.Event
		c := machine(t, program...)
		for range fuel {
			e, _ := c.Step()
			want = append(want, e)
		}
		got, trap := exec.Trace(machine(t, program...), fuel)
		if !slices.Equal(got, want) || trap != api.TrapNone {
			t.Error(fuel, got, trap)
		}
	}
	if got, trap := exec.Trace(machine(t, addi(1, 0, 5), stop), 9); len(got) != 1 || trap != api.TrapBreak {
		t.Error(got, trap)
	}
	for _, fuel := range []int{api.MaxTrace, api.MaxTrace + 1, 1<<63 - 1} {
		if got, trap := exec.Trace(machine(t, program...), fuel); len(got) != api.MaxTrace || trap != api.TrapNone {
			t.Error(fuel, len(got), trap)
		}
	}
	if got, trap := exec.Trace(nil, 1); len(got) != 0 || trap != api.TrapFetch {
		t.Error("nil", got, trap)
	}
	if got, trap := exec.Trace(nil, 0); len(got) != 0 || trap != api.TrapNone {
		t.Error("nil", got, trap)
	}
}

// P7.3
func TestPath(t *testing.T) {
	for _, fuel := range []int{-3, 0, 1, 2, 3, 17, 200000} {
		events, want := exec.Trace(machine(t, program...), fuel)
		way := uint32(2166136261)
		for _, e := range events {
			way = (way ^ e.PC) * 16777619
			way = (way ^ uint32(e.Kind)) * 16777619
			way = (way ^ e.Addr) * 16777619
			way = (way ^ uint32(e.Size)) * 16777619
		}
		if got, trap := exec.Path(machine(t, program...), fuel); got != way || trap != want {
			t.Error(fuel, got, trap)
		}
	}
	if got, trap := exec.Path(machine(t, stop), 5); got != 2166136261 || trap != api.TrapBreak {
		t.Error(got, trap)
	}
	if got, trap := exec.Path(nil, 5); got != 2166136261 || trap != api.TrapFetch {
		t.Error("nil", got, trap)
	}
}

// P7.4
func TestInParts(t *testing.T) {
	for a := range 12 {
		for b := range 12 {
			once, twice := machine(t, program...), machine(t, program...)
			exec.Run(once, a+b)
			n, _ := exec.Run(twice, a)
			m, trap := exec.Run(twice, b)
			if n+m != a+b || trap != api.TrapNone || once.PC() != twice.PC() {
				t.Error(a, b, n, m)
			}
			for r := range 32 {
				if once.Reg(r) != twice.Reg(r) {
					t.Error(a, b, r)
				}
			}
			x, _ := once.Memory().Get(64, 64)
			y, _ := twice.Memory().Get(64, 64)
			if !slices.Equal(x, y) {
				t.Error(a, b, x, y)
			}
		}
	}
}
