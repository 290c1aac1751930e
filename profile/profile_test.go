package profile_test

import (
	"slices"
	"testing"

	"pintle/api"
	"pintle/asm"
	"pintle/family"
	"pintle/graph"
	"pintle/image"
	"pintle/inst"
	"pintle/load"
	"pintle/mcc"
	"pintle/profile"
)

const (
	flash = 0x10000
	ram   = 0x20000000
)

// written has instructions as its text, and an input of one byte.
func written(t *testing.T, fuel uint64, l ...api.Ins) []byte {
	t.Helper()
	var items []api.Item
	for _, i := range l {
		items = append(items, api.Item{Kind: api.ItemIns, Ins: i})
	}
	words, _ := asm.Words(flash, items)
	var text []byte
	for _, w := range words {
		text = append(text, byte(w), byte(w>>8), byte(w>>16), byte(w>>24))
	}
	m := api.Image{
		Target: api.Target{Flash: flash, FlashSize: 256, RAM: ram, RAMSize: 256},
		Entry:  flash, Text: api.Region{Addr: flash, Size: uint32(len(text))}, Fuel: fuel, Input: api.Region{Addr: ram, Size: 1}, Segs: []api.Seg{{Addr: flash, Data: text}},
	}
	b, err := image.Write(m)
	if err != api.OK {
		t.Fatal(err)
	}
	return b
}

func addi(rd, rs int, n int32) api.Ins { return api.Ins{Op: api.Addi, Rd: rd, Rs1: rs, Imm: n} }

func store(op int, n int32) api.Ins { return api.Ins{Op: op, Rs1: 5, Rs2: 6, Imm: n} }

var (
	stop = api.Ins{Op: api.Ebreak}
	base = api.Ins{Op: api.Lui, Rd: 5, Imm: ram}
	// rounds counts the input's byte down to 0, and stores each time.
	rounds = []api.Ins{base, {Op: api.Lbu, Rd: 6, Rs1: 5}, store(api.Sb, 9), addi(6, 6, -1), {Op: api.Bne, Rs1: 6, Imm: -8}, stop}
	always = []api.Ins{addi(1, 1, 1), {Op: api.Jal, Imm: -4}}
)

func mix(l map[int]int) []int {
	many := make([]int, 49)
	for op, n := range l {
		many[op] = n
		many[0] += n
	}
	return many
}

// P41.1, P41.2
func TestMix(t *testing.T) {
	for i, x := range []struct {
		b    []byte
		x    int8
		want map[int]int
	}{
		{written(t, 9, addi(1, 0, 1), addi(1, 0, 2), stop), 1, map[int]int{api.Addi: 2}}, {written(t, 1, addi(1, 0, 1), addi(1, 0, 2), stop), 1, map[int]int{api.Addi: 1}}, {written(t, 0, addi(1, 0, 1), stop), 1, nil}, {written(t, 9, stop), 1, nil},
		{written(t, 99, rounds...), 3, map[int]int{api.Lui: 1, api.Lbu: 1, api.Sb: 3, api.Addi: 3, api.Bne: 3}}, {written(t, 9, addi(1, 0, 1), api.Ins{Op: api.Lw, Rd: 1, Rs1: 1}), 1, map[int]int{api.Addi: 1}}, {written(t, 1<<63, always...), 1, map[int]int{api.Addi: 50000, api.Jal: 50000}},
	} {
		if got, err := profile.Mix(x.b, []int8{x.x}); !slices.Equal(got, mix(x.want)) || err != api.OK {
			t.Error(i, got, err)
		}
	}
}

// P41.1
func TestErrors(t *testing.T) {
	b := written(t, 9, stop)
	for i, x := range []struct {
		b   []byte
		x   []int8
		err api.Errno
	}{{nil, nil, api.ErrShort}, {b[:80], []int8{1}, api.ErrShort}, {append([]byte("XXXX"), b[4:]...), []int8{1}, api.ErrForm}, {b, nil, api.ErrArg}, {b, []int8{1, 2}, api.ErrArg}} {
		a, e1 := profile.Mix(x.b, x.x)
		s, e2 := profile.Hot(x.b, x.x, 5)
		r, e3 := profile.Touched(x.b, x.x)
		if a != nil || s != nil || r != nil || e1 != x.err || e2 != x.err || e3 != x.err {
			t.Error(i, e1, e2, e3)
		}
	}
}

// P41.3
func TestHot(t *testing.T) {
	b := written(t, 99, rounds...)
	all := []api.Spot{{PC: flash + 8, Many: 4}, {PC: flash + 12, Many: 4}, {PC: flash + 16, Many: 4}, {PC: flash, Many: 1}, {PC: flash + 4, Many: 1}}
	for _, n := range []int{-1 << 63, -1, 0, 1, 2, 4, 5, 6, 1<<63 - 1} {
		got, err := profile.Hot(b, []int8{4}, n)
		if !slices.Equal(got, all[:max(0, min(n, 5))]) || err != api.OK {
			t.Error(n, got, err)
		}
	}
	if got, err := profile.Hot(written(t, 9, stop), []int8{1}, 5); len(got) != 0 || err != api.OK {
		t.Error(got, err)
	}
}

// P41.4
func TestTouched(t *testing.T) {
	region := func(l ...uint32) []api.Region {
		var out []api.Region
		for i := 0; i < len(l); i += 2 {
			out = append(out, api.Region{Addr: ram + l[i], Size: l[i+1]})
		}
		return out
	}
	for i, x := range []struct {
		l    []api.Ins
		want []api.Region
	}{
		{nil, nil}, {[]api.Ins{store(api.Sb, 9)}, region(9, 1)}, {[]api.Ins{store(api.Sw, 8), store(api.Sb, 12), store(api.Sb, 14), store(api.Sh, 4), store(api.Sb, 6)}, region(4, 3, 8, 5, 14, 1)}, {[]api.Ins{store(api.Sw, 8), store(api.Sb, 9), store(api.Sh, 8), store(api.Sw, 8)}, region(8, 4)}, {[]api.Ins{store(api.Sb, 11), store(api.Sw, 8), store(api.Sb, 7)}, region(7, 5)}, {[]api.Ins{store(api.Sb, 255), store(api.Sb, 0)}, region(0, 1, 255, 1)},
		{[]api.Ins{store(api.Sb, 5), {Op: api.Lw, Rd: 7, Rs1: 5, Imm: 40}, store(api.Sw, 6), store(api.Sb, 1)}, region(5, 1)},
	} {
		got, err := profile.Touched(written(t, 99, slices.Concat([]api.Ins{base}, x.l, []api.Ins{stop})...), []int8{1})
		if !slices.Equal(got, x.want) || err != api.OK {
			t.Error(i, got, err)
		}
	}
}

// P41.5, and all three held against steps one by one.
func TestCompiled(t *testing.T) {
	target := api.Target{Flash: flash, FlashSize: 1 << 20, RAM: ram, RAMSize: 1 << 18}
	for seed := range uint64(15) {
		g := family.Net(seed, 6)
		code, _ := graph.Write(g)
		b, r, err := mcc.Compile(code, target, api.Options{})
		if err != api.OK {
			t.Fatal(err)
		}
		x := family.Input(g, seed)
		c, m, _ := load.Boot(b)
		var in []byte
		for _, n := range x {
			in = append(in, byte(n))
		}
		load.Input(c, m, in)
		ops, places, touched := make([]int, 49), map[uint32]int{}, map[uint32]int{}
		for range min(r.Fuel, 100000) {
			e, _ := c.Step()
			i, _ := inst.Decode(e.Word)
			ops[i.Op]++
			ops[0]++
			places[e.PC]++
			for k := range e.Size {
				if e.Kind == api.DidStore {
					touched[e.Addr+uint32(k)]++
				}
			}
		}
		got, _ := profile.Mix(b, x)
		hot, _ := profile.Hot(b, x, 1<<40)
		regions, _ := profile.Touched(b, x)
		sum := 0
		for i, s := range hot {
			sum += s.Many
			if places[s.PC] != s.Many || i > 0 && (hot[i-1].Many < s.Many || hot[i-1].Many == s.Many && hot[i-1].PC >= s.PC) {
				t.Error(seed, s)
			}
		}
		if !slices.Equal(got, ops) || sum != got[0] || len(hot) != len(places) {
			t.Error(seed, got, sum)
		}
		many := 0
		for i, r := range regions {
			many += int(r.Size)
			if i > 0 && r.Addr <= regions[i-1].Addr+regions[i-1].Size {
				t.Error("not as few", regions)
			}
			for k := range r.Size {
				if touched[r.Addr+k] == 0 {
					t.Error("not stored to", r)
				}
			}
		}
		if many != len(touched) {
			t.Error(seed, many, len(touched))
		}
	}
}
