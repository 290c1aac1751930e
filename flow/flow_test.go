package flow_test

import (
	"reflect"
	"slices"
	"testing"

	"pintle/api"
	"pintle/family"
	"pintle/flow"
	"pintle/inst"
	"pintle/load"
	"pintle/mcc"
)

func word(i api.Ins) uint32 {
	w, ok := inst.Encode(i)
	if !ok {
		panic("no instruction")
	}
	return w
}

func bne(n int32) uint32 { return word(api.Ins{Op: api.Bne, Rs1: 5, Imm: n}) }
func jal(n int32) uint32 { return word(api.Ins{Op: api.Jal, Imm: n}) }

var (
	addi = word(api.Ins{Op: api.Addi})
	stop = word(api.Ins{Op: api.Ebreak})
	call = word(api.Ins{Op: api.Ecall})
	jalr = word(api.Ins{Op: api.Jalr, Rs1: 1})
	none = uint32(0)
)

// P42.1
func TestNext(t *testing.T) {
	for i, x := range []struct {
		words []uint32
		at    int
		want  []int
		ok    bool
	}{
		{[]uint32{addi, bne(-4), stop}, 1, []int{0, 2}, true}, {[]uint32{addi, bne(-4), stop}, 0, []int{1}, true}, {[]uint32{addi, bne(-4), stop}, 2, nil, true}, {nil, 0, nil, false}, {[]uint32{addi}, 1, nil, false}, {[]uint32{addi}, -1, nil, false}, {[]uint32{addi}, 1 << 62, nil, false}, {[]uint32{addi}, -1 << 63, nil, false}, {[]uint32{addi}, 0, nil, true},
		{[]uint32{call, addi}, 0, nil, true}, {[]uint32{none, addi}, 0, nil, true}, {[]uint32{jalr, addi}, 0, nil, false}, {[]uint32{jal(8), addi, addi}, 0, []int{2}, true}, {[]uint32{jal(4), addi}, 0, []int{1}, true}, {[]uint32{jal(0), addi}, 0, []int{0}, true}, {[]uint32{jal(12), addi}, 0, nil, true}, {[]uint32{jal(-4), addi}, 0, nil, true}, {[]uint32{jal(6), addi, addi}, 0, nil, true},
		{[]uint32{bne(8), addi, addi}, 0, []int{1, 2}, true}, {[]uint32{bne(4), addi}, 0, []int{1}, true}, {[]uint32{bne(0), addi}, 0, []int{0, 1}, true}, {[]uint32{bne(6), addi, addi}, 0, []int{1}, true}, {[]uint32{addi, addi, bne(-6), addi}, 2, []int{3}, true}, {[]uint32{bne(-4), addi}, 0, []int{1}, true}, {[]uint32{addi, bne(-4)}, 1, []int{0}, true}, {[]uint32{bne(400), addi}, 0, []int{1}, true},
		{[]uint32{word(api.Ins{Op: api.Fence}), word(api.Ins{Op: api.Lui}), addi}, 0, []int{1}, true}, {[]uint32{word(api.Ins{Op: api.Sw}), addi}, 0, []int{1}, true},
	} {
		got, ok := flow.Next(x.words, x.at)
		if !slices.Equal(got, x.want) || ok != x.ok {
			t.Error(i, got, ok)
		}
	}
}

// P42.1, P42.2, P42.4: each operation.
func TestOperations(t *testing.T) {
	for op := api.Add; op <= api.Ops; op++ {
		i := api.Ins{Op: op}
		branch := op >= api.Beq && op <= api.Bgeu
		if branch || op == api.Jal {
			i.Imm = -4
		}
		words := []uint32{addi, word(i), addi}
		var want []int
		if branch || op == api.Jal {
			want = append(want, 0)
		}
		ends := op == api.Jal || op == api.Ecall || op == api.Ebreak || op == api.Jalr
		if !ends {
			want = append(want, 2)
		}
		next, ok := flow.Next(words, 1)
		if !slices.Equal(next, want) || ok != (op != api.Jalr) {
			t.Error(op, next, ok)
		}
		if spans := flow.Spans(words); len(spans) > 1 != (branch || ends) {
			t.Error(op, spans)
		}
		if back := flow.Back(words); len(back) > 0 != (branch || op == api.Jal) {
			t.Error(op, back)
		}
	}
}

// P42.2
func TestSpans(t *testing.T) {
	span := func(from, to int, next ...int) api.Span { return api.Span{From: from, To: to, Next: next} }
	for i, x := range []struct {
		words []uint32
		want  []api.Span
	}{
		{nil, nil}, {[]uint32{addi, bne(-4), stop}, []api.Span{span(0, 2, 0, 2), span(2, 3)}}, {[]uint32{addi}, []api.Span{span(0, 1)}}, {[]uint32{addi, addi, addi, bne(-4), addi}, []api.Span{span(0, 2, 2), span(2, 4, 2, 4), span(4, 5)}},
		{[]uint32{addi, jalr, addi, call, addi, none, addi, jal(-8), addi}, []api.Span{span(0, 2), span(2, 4), span(4, 5, 5), span(5, 6), span(6, 8, 5), span(8, 9)}}, {[]uint32{bne(6), addi, addi}, []api.Span{span(0, 1, 1), span(1, 3)}}, {[]uint32{bne(8), addi, addi}, []api.Span{span(0, 1, 1, 2), span(1, 2, 2), span(2, 3)}}, {[]uint32{stop, stop}, []api.Span{span(0, 1), span(1, 2)}},
	} {
		if got := flow.Spans(x.words); !reflect.DeepEqual(got, x.want) {
			t.Error(i, got)
		}
	}
}

// P42.3
func TestReach(t *testing.T) {
	for i, x := range []struct {
		words []uint32
		from  int
		want  string
	}{
		{nil, 0, ""}, {[]uint32{addi, bne(-4), stop, addi}, 0, "1110"}, {[]uint32{addi, bne(-4), stop, addi}, 2, "0010"}, {[]uint32{addi, bne(-4), stop, addi}, 3, "0001"}, {[]uint32{addi, bne(-4), stop, addi}, 4, "0000"}, {[]uint32{addi, stop}, -1, "00"}, {[]uint32{addi, stop}, -1 << 63, "00"}, {[]uint32{addi, stop}, 1 << 62, "00"},
		{[]uint32{jal(12), addi, stop, jalr, none, addi}, 0, "100110"}, {[]uint32{jal(0), addi}, 0, "10"}, {[]uint32{bne(12), addi, call, addi}, 0, "1111"}, {[]uint32{jal(6), addi}, 0, "10"},
	} {
		got := ""
		for _, is := range flow.Reach(x.words, x.from) {
			got += map[bool]string{true: "1", false: "0"}[is]
		}
		if got != x.want {
			t.Error(i, got)
		}
	}
}

// P42.4
func TestBack(t *testing.T) {
	for i, x := range []struct {
		words []uint32
		want  [][2]int
	}{
		{nil, nil}, {[]uint32{addi, bne(-4), stop}, [][2]int{{1, 0}}}, {[]uint32{bne(0), jal(0), jal(4), jal(-8), bne(-4), bne(-6), jal(-400), jalr, bne(8), addi}, [][2]int{{0, 0}, {1, 1}, {3, 1}, {4, 3}}},
	} {
		if got := flow.Back(x.words); !slices.Equal(got, x.want) {
			t.Error(i, got)
		}
	}
}

// P42.5
func TestParts(t *testing.T) {
	seed := uint32(5)
	next := func(n int) int { seed = seed*1664525 + 1013904223; return int(seed>>8) % n }
	for range 500 {
		var words []uint32
		for range next(20) {
			words = append(words, []uint32{addi, addi, addi, stop, call, jalr, none, bne(int32(next(40)*2 - 40)), jal(int32(next(40)*2 - 40))}[next(9)])
		}
		kept := slices.Clone(words)
		at := 0
		for _, s := range flow.Spans(words) {
			if s.From != at || s.To <= s.From {
				t.Fatal(s, at)
			}
			for i := s.From; i < s.To-1; i++ {
				if l, ok := flow.Next(words, i); !slices.Equal(l, []int{i + 1}) || !ok {
					t.Fatal(s, i, l)
				}
			}
			if l, _ := flow.Next(words, s.To-1); !slices.Equal(l, s.Next) {
				t.Fatal(s, l)
			}
			at = s.To
		}
		if at != len(words) || !slices.Equal(words, kept) {
			t.Fatal(at, len(words))
		}
		for _, p := range flow.Back(words) {
			if l, ok := flow.Next(words, p[0]); !slices.Contains(l, p[1]) || !ok || p[1] > p[0] {
				t.Fatal(p, l)
			}
		}
	}
}

// P42.6
func TestRun(t *testing.T) {
	target := api.Target{Flash: 65536, FlashSize: 1 << 20, RAM: 0x20000000, RAMSize: 1 << 18}
	for seed := range uint64(10) {
		g := family.Net(seed, 6)
		m, _, err := mcc.Program(g, target, api.Options{})
		if err != api.OK {
			t.Fatal(err)
		}
		c, _ := load.Load(m)
		var words []uint32
		for at := m.Text.Addr; at < m.Text.Addr+m.Text.Size; at += 4 {
			w, _ := c.Memory().Fetch(at)
			words = append(words, w)
		}
		reach := flow.Reach(words, int(m.Entry-m.Text.Addr)/4)
		for {
			if !reach[(c.PC()-m.Text.Addr)/4] {
				t.Fatal(c.PC())
			}
			if _, trap := c.Step(); trap != api.TrapNone {
				break
			}
		}
		// All loops of a program that was compiled are there.
		if len(flow.Back(words)) == 0 && m.Fuel > uint64(len(words)) {
			t.Error(seed)
		}
	}
}
